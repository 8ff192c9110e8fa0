/-
  fields.All: the iterator's function, and what it holds.
-/
import Derived.Test.YtkgapklhgkngnaaDoorEB10
namespace Go.Proofs.YtkgapklhgkngnaaDoor
open Go.RowKit

attribute [local go_sem ↓] Go.wp_at_zero Go.wp_at_succ

theorem WO.setK {w : World} {t : ByteArray} {sv : Value} {Y : World} (h : WO w t sv Y) {K : Nat} (hK : w.heap.size < K) (u : Value) : WO w t sv (Y.setCell ⟨K, 0, none⟩ u) :=
  ⟨h.bel.setCell (p := ⟨K, 0, none⟩) (Nat.le_of_lt hK) u, h.box.setne (a := ⟨K, 0, none⟩) (by show ¬ K = w.heap.size; omega) u⟩
structure ItH (B : Nat) (W : World) (bt bs : Nat) (T : ByteArray) (L : List Sp) (va : Value) : Prop where
  tx : Blk W bt #[.string T] 9
  sp : Blk W bs #[va] 23
  ls : SpV W va L
  lo : B ≤ bt ∧ B ≤ bs

set_option maxRecDepth 100000 in
set_option maxHeartbeats 16000000 in
theorem All_yes (T : ByteArray) (v : Value) (l : List Sp) (w : World) (hT : U8 w) (ht : T.size ≤ 9223372036854775807) (hv : SpV w v l) (hno : NilOr v) (hl : (l.length + 1) * 24 ≤ 140737488355328) (hm : mayB T l = true) :
    Calls Tryd.prog 21 #[.agg #[.string T, v]] w fun e w' => Hid (∃ bt bs va, e = .returned (.func (.func 42) #[] #[.pointer (some ⟨bs, 0, none⟩), .pointer (some ⟨bt, 0, none⟩)]) ∧ ItH w.heap.size w' bt bs T l va) ∧ Below w.heap.size w w' := by
  have HV := hide hv
  have HNO := hide hno
  obtain ⟨ao, cap, rfl⟩ := hv.len
  obtain ⟨n, hn⟩ : ∃ n, n = l.length := ⟨_, rfl⟩
  obtain ⟨W1, hW1⟩ : ∃ W1, W1 = w.alloc (.cells #[.string T, .slice ao n cap] 25) := ⟨_, rfl⟩
  have B1 := hide (show Below w.heap.size w W1 by rw [hW1]; exact (Below.refl _ _).alloc (Nat.le_refl _) _)
  have BX1 : Hid (Blk W1 w.heap.size #[.string T, .slice ao n cap] 25) := hide (by rw [hW1]; exact Blk.newAt w _ rfl _ _)
  have HW := hide hW1.symm
  have C1 := hide (Check_any T _ l W1 (hT.below B1.out) ht (hv.below B1.out) hl)
  rw [hm] at C1
  rw [← hn] at C1 HV HNO hl ⊢
  have HL : Hid (n * 24 ≤ 140737488355328) := hide (by omega)
  have EN := hide hn
  have OC : Hid (∀ X, Below w.heap.size w X → Calls Tryd.prog 41 #[.slice ao n cap] X fun e w' => Hid (∃ uo uc, e = .returned (.slice uo n uc) ∧ OwnS X.heap.size w' (.slice uo n uc) l) ∧ Below X.heap.size X w') := hide (fun X hX => by
    have q := Clone_any _ l X (HV.out.below hX) HNO.out (by rw [← EN.out]; exact HL.out)
    rw [← EN.out] at q
    exact q)
  clear hW1 hv hT ht hno hl hm hn HV HNO HL
  go_enter Tryd.func21, Tryd.ntmps21
  have c0 := BX1.out.cell 0
  have c1 := BX1.out.cell 1
  go_wp2_with (simp only [HW.out])
  refine C1.out.mono ?_
  rintro e w3 ⟨rfl, hb3⟩
  have e1 : errM true = 0 := rfl
  rw [e1]
  have WA3 : Hid (WO w T (.slice ao n cap) w3) := hide ⟨B1.out.trans (hb3.mono B1.out.size), BX1.out.below hb3 BX1.out.lt⟩
  clear hb3 C1 c0 c1 HW B1 BX1
  go_wp2_with fail
  refine wp_region_held_drew (S := WO w T (.slice ao n cap)) (by kernel_rfl) ?_ (fun hHeld => ?_)
  · exact WA3.out.below (Below.refl _ _).drew
  obtain ⟨x0, hx0⟩ : ∃ x0, x0 = w3.drew := ⟨_, rfl⟩
  have WAx0 : Hid (WO w T (.slice ao n cap) x0) := hide (by rw [hx0]; exact WA3.out.below (Below.refl _ _).drew)
  have WAL : Hid (w.heap.size < x0.heap.size) := hide WAx0.out.box.lt
  rw [← hx0]
  clear hx0 WA3
  refine wpAnyH_take (i := 0) (oi := Oper.mk (some 9) _ _ _ _ _) (v := .pointer (some ⟨w.heap.size, 0, none⟩)) rfl (by kernel_rfl) (by kernel_rfl) (by kernel_rfl) (fun _ _ _ h => h) (Or.inl ⟨by rfl, ?_⟩) (by assumption) ?_
  · intro wX hSw
    (try dsimp only at hSw)
    have k0 := hSw.box.cell 0; have k1 := hSw.box.cell 1
    go_simp
  simp only [Act.put, List.setIfInBounds_toArray, List.set_cons_succ, List.set_cons_zero]
  refine wpAnyH_take (i := 1) (oi := Oper.mk (some 10) _ _ _ _ _) (v := .string T) rfl (by kernel_rfl) (by kernel_rfl) (by kernel_rfl) (fun _ _ _ h => h) (Or.inl ⟨by rfl, ?_⟩) (by assumption) ?_
  · intro wX hSw
    (try dsimp only at hSw)
    have k0 := hSw.box.cell 0; have k1 := hSw.box.cell 1
    go_simp
  simp only [Act.put, List.setIfInBounds_toArray, List.set_cons_succ, List.set_cons_zero]
  refine wpAnyH_take (i := 2) (oi := Oper.mk (some 11) _ _ _ _ _) (v := .pointer (some ⟨w.heap.size, 1, none⟩)) rfl (by kernel_rfl) (by kernel_rfl) (by kernel_rfl) (fun _ _ _ h => h) (Or.inl ⟨by rfl, ?_⟩) (by assumption) ?_
  · intro wX hSw
    (try dsimp only at hSw)
    have k0 := hSw.box.cell 0; have k1 := hSw.box.cell 1
    go_simp
  simp only [Act.put, List.setIfInBounds_toArray, List.set_cons_succ, List.set_cons_zero]
  refine wpAnyH_take (i := 3) (oi := Oper.mk (some 12) _ _ _ _ _) (v := .slice ao n cap) rfl (by kernel_rfl) (by kernel_rfl) (by kernel_rfl) (fun _ _ _ h => h) (Or.inl ⟨by rfl, ?_⟩) (by assumption) ?_
  · intro wX hSw
    (try dsimp only at hSw)
    have k0 := hSw.box.cell 0; have k1 := hSw.box.cell 1
    go_simp
  simp only [Act.put, List.setIfInBounds_toArray, List.set_cons_succ, List.set_cons_zero]
  refine wpAnyH_ready (rs := [4, 5, 6]) (by kernel_rfl) (by simp) ?_
  refine AllReadyH.cons (o := Oper.mk (some 13) _ _ _ _ _) rfl (fun K hK => ?_) (AllReadyH.cons (o := Oper.mk (some 3) _ _ _ _ _) rfl (fun K hK => ?_) (AllReadyH.cons (o := Oper.mk (some 4) _ _ _ _ _) rfl (fun K hK => ?_) AllReadyH.nil))
  · go_simp
    refine (OC.out x0 WAx0.out.bel).mono ?_
    rintro e x1 ⟨HE, hbx1⟩
    obtain ⟨uo, uc, rfl, ho⟩ := HE.out
    have Zx1 := hide (show x0.heap.size ≤ x1.heap.size from hbx1.size)
    have WAx1 := hide (WAx0.out.below hbx1)
    have HOx1 := hide ho
    have OB := hide (fun k (q : (.slice uo n uc : Value).ownBlock = some k) => show x0.heap.size ≤ k ∧ k < x1.heap.size from World.ownsRow.lt ho k q)
    clear HE ho hbx1 OC WAx0
    refine hK.out _ _ ?_ (fun hHeld => ?_)
    · exact WAx1.out
    clear hK K
    refine wpAnyH_ready (rs := [5, 6]) (by kernel_rfl) (by simp) ?_
    refine AllReadyH.cons (o := Oper.mk (some 3) _ _ _ _ _) rfl (fun K hK => ?_) (AllReadyH.cons (o := Oper.mk (some 4) _ _ _ _ _) rfl (fun K hK => ?_) AllReadyH.nil)
    · go_simp
      obtain ⟨x2, hx2⟩ : ∃ x2, x2 = x1.alloc (.cells #[.string ⟨#[]⟩] 9) := ⟨_, rfl⟩
      have hb : Below x1.heap.size x1 x2 := by rw [hx2]; exact (Below.refl _ _).alloc (Nat.le_refl _) _
      have Zx2 := hide (show x2.heap.size = x1.heap.size + 1 by rw [hx2, allocW_size])
      have WAx2 := hide (WAx1.out.below hb)
      have TBx2 : Hid (Blk x2 x1.heap.size #[.string ⟨#[]⟩] 9) := hide (by rw [hx2]; exact Blk.newAt _ _ rfl _ _)
      have HOx2 := hide (ownF_below HOx1.out hb)
      have HXx2 := hide hx2.symm
      clear hx2 hb WAx1
      simp only [HXx2.out]
      clear HXx2
      refine hK.out _ _ ?_ (fun hHeld => ?_)
      · exact WAx2.out
      clear hK K
      refine wpAnyH_ready (rs := [6]) (by kernel_rfl) (by simp) ?_
      refine AllReadyH.cons (o := Oper.mk (some 4) _ _ _ _ _) rfl (fun K hK => ?_) AllReadyH.nil
      go_simp
      obtain ⟨x3, hx3⟩ : ∃ x3, x3 = x2.alloc (.cells #[.slice none 0 0] 23) := ⟨_, rfl⟩
      have hb : Below x2.heap.size x2 x3 := by rw [hx3]; exact (Below.refl _ _).alloc (Nat.le_refl _) _
      have Zx3 := hide (show x3.heap.size = x2.heap.size + 1 by rw [hx3, allocW_size])
      have WAx3 := hide (WAx2.out.below hb)
      have SBx3 : Hid (Blk x3 x2.heap.size #[.slice none 0 0] 23) := hide (by rw [hx3]; exact Blk.newAt _ _ rfl _ _)
      have TBx3 := hide (TBx2.out.below hb TBx2.out.lt)
      have HOx3 := hide (ownF_below HOx2.out hb)
      have HXx3 := hide hx3.symm
      clear hx3 hb WAx2
      simp only [HXx3.out]
      clear HXx3
      refine hK.out _ _ ?_ (fun hHeld => ?_)
      · exact WAx3.out
      clear hK K
      have NT : Hid (¬ (.slice uo n uc : Value).ownBlock = some x1.heap.size) := hide (fun q => by have := OB.out _ q; have z1 := Zx1.out; have z2 := Zx2.out; have z3 := Zx3.out; have z0 := WAL.out; omega)
      have NS : Hid (¬ (.slice uo n uc : Value).ownBlock = some x2.heap.size) := hide (fun q => by have := OB.out _ q; have z1 := Zx1.out; have z2 := Zx2.out; have z3 := Zx3.out; have z0 := WAL.out; omega)
      have LT : Hid (w.heap.size < x1.heap.size ∧ w.heap.size < x2.heap.size ∧ ¬ x1.heap.size = x2.heap.size ∧ w.heap.size + 1 ≤ x0.heap.size) := hide (by have z1 := Zx1.out; have z2 := Zx2.out; have z3 := Zx3.out; have z0 := WAL.out; omega)
      have k0 := TBx3.out.cell 0
      have f0 := TBx3.out.free 0
      clear hHeld
      have W1 := hide (WAx3.out.setK LT.out.1 (.string T))
      have T1 := hide (TBx3.out.setN 0 (.string T))
      have S1 := hide (SBx3.out.setne (a := ⟨x1.heap.size, 0, none⟩) LT.out.2.2.1 (.string T))
      have O1 := hide (ownF_setne (a := ⟨x1.heap.size, 0, none⟩) HOx3.out NT.out (.string T))
      refine wpAnyH_ready (rs := [7]) (by kernel_rfl) (by simp) ?_
      refine AllReadyH.cons (o := Oper.mk none _ _ _ _ _) rfl (fun K hK => ?_) AllReadyH.nil
      go_simp
      refine hK.out _ _ ?_ (fun hHeld => ?_)
      · exact W1.out
      clear hK K
      clear k0 f0 hHeld
      have k0 := S1.out.cell 0
      have f0 := S1.out.free 0
      have W2 := hide (W1.out.setK LT.out.2.1 (.slice uo n uc))
      have T2 := hide (T1.out.setne (a := ⟨x2.heap.size, 0, none⟩) (fun q => LT.out.2.2.1 q.symm) (.slice uo n uc))
      have S2 := hide (S1.out.setN 0 (.slice uo n uc))
      have O2 := hide (ownF_setne (a := ⟨x2.heap.size, 0, none⟩) O1.out NS.out (.slice uo n uc))
      refine wpAnyH_ready (rs := [8]) (by kernel_rfl) (by simp) ?_
      refine AllReadyH.cons (o := Oper.mk none _ _ _ _ _) rfl (fun K hK => ?_) AllReadyH.nil
      go_simp
      refine hK.out _ _ ?_ (fun hHeld => ?_)
      · exact W2.out
      clear hK K
      refine wpAnyH_done (by kernel_rfl) ?_ _
      clear hHeld
      obtain ⟨X9, hX9⟩ : ∃ X9, X9 = ((x3.setCell ⟨x1.heap.size, 0, none⟩ (.string T)).setCell ⟨x2.heap.size, 0, none⟩ (.slice uo n uc)) := ⟨_, rfl⟩
      have HX9 := hide hX9.symm
      rw [HX9.out] at W2 T2 S2 O2
      simp only [HX9.out]
      clear hX9 HX9 W1 T1 S1 O1 k0 f0 TBx3 SBx3 HOx3 WAx3
      go_wp2
      go_ret
      exact ⟨hide ⟨x1.heap.size, x2.heap.size, _, rfl, T2.out, S2.out, (show OwnS _ X9 _ l from O2.out).spv, Nat.le_of_lt LT.out.1, Nat.le_of_lt LT.out.2.1⟩, W2.out.bel⟩
    · go_simp
      obtain ⟨x2, hx2⟩ : ∃ x2, x2 = x1.alloc (.cells #[.slice none 0 0] 23) := ⟨_, rfl⟩
      have hb : Below x1.heap.size x1 x2 := by rw [hx2]; exact (Below.refl _ _).alloc (Nat.le_refl _) _
      have Zx2 := hide (show x2.heap.size = x1.heap.size + 1 by rw [hx2, allocW_size])
      have WAx2 := hide (WAx1.out.below hb)
      have SBx2 : Hid (Blk x2 x1.heap.size #[.slice none 0 0] 23) := hide (by rw [hx2]; exact Blk.newAt _ _ rfl _ _)
      have HOx2 := hide (ownF_below HOx1.out hb)
      have HXx2 := hide hx2.symm
      clear hx2 hb WAx1
      simp only [HXx2.out]
      clear HXx2
      refine hK.out _ _ ?_ (fun hHeld => ?_)
      · exact WAx2.out
      clear hK K
      refine wpAnyH_ready (rs := [5]) (by kernel_rfl) (by simp) ?_
      refine AllReadyH.cons (o := Oper.mk (some 3) _ _ _ _ _) rfl (fun K hK => ?_) AllReadyH.nil
      go_simp
      obtain ⟨x3, hx3⟩ : ∃ x3, x3 = x2.alloc (.cells #[.string ⟨#[]⟩] 9) := ⟨_, rfl⟩
      have hb : Below x2.heap.size x2 x3 := by rw [hx3]; exact (Below.refl _ _).alloc (Nat.le_refl _) _
      have Zx3 := hide (show x3.heap.size = x2.heap.size + 1 by rw [hx3, allocW_size])
      have WAx3 := hide (WAx2.out.below hb)
      have TBx3 : Hid (Blk x3 x2.heap.size #[.string ⟨#[]⟩] 9) := hide (by rw [hx3]; exact Blk.newAt _ _ rfl _ _)
      have SBx3 := hide (SBx2.out.below hb SBx2.out.lt)
      have HOx3 := hide (ownF_below HOx2.out hb)
      have HXx3 := hide hx3.symm
      clear hx3 hb WAx2
      simp only [HXx3.out]
      clear HXx3
      refine hK.out _ _ ?_ (fun hHeld => ?_)
      · exact WAx3.out
      clear hK K
      have NT : Hid (¬ (.slice uo n uc : Value).ownBlock = some x2.heap.size) := hide (fun q => by have := OB.out _ q; have z1 := Zx1.out; have z2 := Zx2.out; have z3 := Zx3.out; have z0 := WAL.out; omega)
      have NS : Hid (¬ (.slice uo n uc : Value).ownBlock = some x1.heap.size) := hide (fun q => by have := OB.out _ q; have z1 := Zx1.out; have z2 := Zx2.out; have z3 := Zx3.out; have z0 := WAL.out; omega)
      have LT : Hid (w.heap.size < x2.heap.size ∧ w.heap.size < x1.heap.size ∧ ¬ x2.heap.size = x1.heap.size ∧ w.heap.size + 1 ≤ x0.heap.size) := hide (by have z1 := Zx1.out; have z2 := Zx2.out; have z3 := Zx3.out; have z0 := WAL.out; omega)
      have k0 := TBx3.out.cell 0
      have f0 := TBx3.out.free 0
      clear hHeld
      have W1 := hide (WAx3.out.setK LT.out.1 (.string T))
      have T1 := hide (TBx3.out.setN 0 (.string T))
      have S1 := hide (SBx3.out.setne (a := ⟨x2.heap.size, 0, none⟩) LT.out.2.2.1 (.string T))
      have O1 := hide (ownF_setne (a := ⟨x2.heap.size, 0, none⟩) HOx3.out NT.out (.string T))
      refine wpAnyH_ready (rs := [7]) (by kernel_rfl) (by simp) ?_
      refine AllReadyH.cons (o := Oper.mk none _ _ _ _ _) rfl (fun K hK => ?_) AllReadyH.nil
      go_simp
      refine hK.out _ _ ?_ (fun hHeld => ?_)
      · exact W1.out
      clear hK K
      clear k0 f0 hHeld
      have k0 := S1.out.cell 0
      have f0 := S1.out.free 0
      have W2 := hide (W1.out.setK LT.out.2.1 (.slice uo n uc))
      have T2 := hide (T1.out.setne (a := ⟨x1.heap.size, 0, none⟩) (fun q => LT.out.2.2.1 q.symm) (.slice uo n uc))
      have S2 := hide (S1.out.setN 0 (.slice uo n uc))
      have O2 := hide (ownF_setne (a := ⟨x1.heap.size, 0, none⟩) O1.out NS.out (.slice uo n uc))
      refine wpAnyH_ready (rs := [8]) (by kernel_rfl) (by simp) ?_
      refine AllReadyH.cons (o := Oper.mk none _ _ _ _ _) rfl (fun K hK => ?_) AllReadyH.nil
      go_simp
      refine hK.out _ _ ?_ (fun hHeld => ?_)
      · exact W2.out
      clear hK K
      refine wpAnyH_done (by kernel_rfl) ?_ _
      clear hHeld
      obtain ⟨X9, hX9⟩ : ∃ X9, X9 = ((x3.setCell ⟨x2.heap.size, 0, none⟩ (.string T)).setCell ⟨x1.heap.size, 0, none⟩ (.slice uo n uc)) := ⟨_, rfl⟩
      have HX9 := hide hX9.symm
      rw [HX9.out] at W2 T2 S2 O2
      simp only [HX9.out]
      clear hX9 HX9 W1 T1 S1 O1 k0 f0 TBx3 SBx3 HOx3 WAx3
      go_wp2
      go_ret
      exact ⟨hide ⟨x2.heap.size, x1.heap.size, _, rfl, T2.out, S2.out, (show OwnS _ X9 _ l from O2.out).spv, Nat.le_of_lt LT.out.1, Nat.le_of_lt LT.out.2.1⟩, W2.out.bel⟩
  · go_simp
    obtain ⟨x1, hx1⟩ : ∃ x1, x1 = x0.alloc (.cells #[.string ⟨#[]⟩] 9) := ⟨_, rfl⟩
    have hb : Below x0.heap.size x0 x1 := by rw [hx1]; exact (Below.refl _ _).alloc (Nat.le_refl _) _
    have Zx1 := hide (show x1.heap.size = x0.heap.size + 1 by rw [hx1, allocW_size])
    have WAx1 := hide (WAx0.out.below hb)
    have TBx1 : Hid (Blk x1 x0.heap.size #[.string ⟨#[]⟩] 9) := hide (by rw [hx1]; exact Blk.newAt _ _ rfl _ _)
    have HXx1 := hide hx1.symm
    clear hx1 hb WAx0
    simp only [HXx1.out]
    clear HXx1
    refine hK.out _ _ ?_ (fun hHeld => ?_)
    · exact WAx1.out
    clear hK K
    refine wpAnyH_ready (rs := [4, 6]) (by kernel_rfl) (by simp) ?_
    refine AllReadyH.cons (o := Oper.mk (some 13) _ _ _ _ _) rfl (fun K hK => ?_) (AllReadyH.cons (o := Oper.mk (some 4) _ _ _ _ _) rfl (fun K hK => ?_) AllReadyH.nil)
    · go_simp
      refine (OC.out x1 WAx1.out.bel).mono ?_
      rintro e x2 ⟨HE, hbx2⟩
      obtain ⟨uo, uc, rfl, ho⟩ := HE.out
      have Zx2 := hide (show x1.heap.size ≤ x2.heap.size from hbx2.size)
      have WAx2 := hide (WAx1.out.below hbx2)
      have HOx2 := hide ho
      have TBx2 := hide (TBx1.out.below hbx2 TBx1.out.lt)
      have OB := hide (fun k (q : (.slice uo n uc : Value).ownBlock = some k) => show x1.heap.size ≤ k ∧ k < x2.heap.size from World.ownsRow.lt ho k q)
      clear HE ho hbx2 OC WAx1
      refine hK.out _ _ ?_ (fun hHeld => ?_)
      · exact WAx2.out
      clear hK K
      refine wpAnyH_ready (rs := [6]) (by kernel_rfl) (by simp) ?_
      refine AllReadyH.cons (o := Oper.mk (some 4) _ _ _ _ _) rfl (fun K hK => ?_) AllReadyH.nil
      go_simp
      obtain ⟨x3, hx3⟩ : ∃ x3, x3 = x2.alloc (.cells #[.slice none 0 0] 23) := ⟨_, rfl⟩
      have hb : Below x2.heap.size x2 x3 := by rw [hx3]; exact (Below.refl _ _).alloc (Nat.le_refl _) _
      have Zx3 := hide (show x3.heap.size = x2.heap.size + 1 by rw [hx3, allocW_size])
      have WAx3 := hide (WAx2.out.below hb)
      have SBx3 : Hid (Blk x3 x2.heap.size #[.slice none 0 0] 23) := hide (by rw [hx3]; exact Blk.newAt _ _ rfl _ _)
      have TBx3 := hide (TBx2.out.below hb TBx2.out.lt)
      have HOx3 := hide (ownF_below HOx2.out hb)
      have HXx3 := hide hx3.symm
      clear hx3 hb WAx2
      simp only [HXx3.out]
      clear HXx3
      refine hK.out _ _ ?_ (fun hHeld => ?_)
      · exact WAx3.out
      clear hK K
      have NT : Hid (¬ (.slice uo n uc : Value).ownBlock = some x0.heap.size) := hide (fun q => by have := OB.out _ q; have z1 := Zx1.out; have z2 := Zx2.out; have z3 := Zx3.out; have z0 := WAL.out; omega)
      have NS : Hid (¬ (.slice uo n uc : Value).ownBlock = some x2.heap.size) := hide (fun q => by have := OB.out _ q; have z1 := Zx1.out; have z2 := Zx2.out; have z3 := Zx3.out; have z0 := WAL.out; omega)
      have LT : Hid (w.heap.size < x0.heap.size ∧ w.heap.size < x2.heap.size ∧ ¬ x0.heap.size = x2.heap.size ∧ w.heap.size + 1 ≤ x1.heap.size) := hide (by have z1 := Zx1.out; have z2 := Zx2.out; have z3 := Zx3.out; have z0 := WAL.out; omega)
      have k0 := TBx3.out.cell 0
      have f0 := TBx3.out.free 0
      clear hHeld
      have W1 := hide (WAx3.out.setK LT.out.1 (.string T))
      have T1 := hide (TBx3.out.setN 0 (.string T))
      have S1 := hide (SBx3.out.setne (a := ⟨x0.heap.size, 0, none⟩) LT.out.2.2.1 (.string T))
      have O1 := hide (ownF_setne (a := ⟨x0.heap.size, 0, none⟩) HOx3.out NT.out (.string T))
      refine wpAnyH_ready (rs := [7]) (by kernel_rfl) (by simp) ?_
      refine AllReadyH.cons (o := Oper.mk none _ _ _ _ _) rfl (fun K hK => ?_) AllReadyH.nil
      go_simp
      refine hK.out _ _ ?_ (fun hHeld => ?_)
      · exact W1.out
      clear hK K
      clear k0 f0 hHeld
      have k0 := S1.out.cell 0
      have f0 := S1.out.free 0
      have W2 := hide (W1.out.setK LT.out.2.1 (.slice uo n uc))
      have T2 := hide (T1.out.setne (a := ⟨x2.heap.size, 0, none⟩) (fun q => LT.out.2.2.1 q.symm) (.slice uo n uc))
      have S2 := hide (S1.out.setN 0 (.slice uo n uc))
      have O2 := hide (ownF_setne (a := ⟨x2.heap.size, 0, none⟩) O1.out NS.out (.slice uo n uc))
      refine wpAnyH_ready (rs := [8]) (by kernel_rfl) (by simp) ?_
      refine AllReadyH.cons (o := Oper.mk none _ _ _ _ _) rfl (fun K hK => ?_) AllReadyH.nil
      go_simp
      refine hK.out _ _ ?_ (fun hHeld => ?_)
      · exact W2.out
      clear hK K
      refine wpAnyH_done (by kernel_rfl) ?_ _
      clear hHeld
      obtain ⟨X9, hX9⟩ : ∃ X9, X9 = ((x3.setCell ⟨x0.heap.size, 0, none⟩ (.string T)).setCell ⟨x2.heap.size, 0, none⟩ (.slice uo n uc)) := ⟨_, rfl⟩
      have HX9 := hide hX9.symm
      rw [HX9.out] at W2 T2 S2 O2
      simp only [HX9.out]
      clear hX9 HX9 W1 T1 S1 O1 k0 f0 TBx3 SBx3 HOx3 WAx3
      go_wp2
      go_ret
      exact ⟨hide ⟨x0.heap.size, x2.heap.size, _, rfl, T2.out, S2.out, (show OwnS _ X9 _ l from O2.out).spv, Nat.le_of_lt LT.out.1, Nat.le_of_lt LT.out.2.1⟩, W2.out.bel⟩
    · go_simp
      obtain ⟨x2, hx2⟩ : ∃ x2, x2 = x1.alloc (.cells #[.slice none 0 0] 23) := ⟨_, rfl⟩
      have hb : Below x1.heap.size x1 x2 := by rw [hx2]; exact (Below.refl _ _).alloc (Nat.le_refl _) _
      have Zx2 := hide (show x2.heap.size = x1.heap.size + 1 by rw [hx2, allocW_size])
      have WAx2 := hide (WAx1.out.below hb)
      have SBx2 : Hid (Blk x2 x1.heap.size #[.slice none 0 0] 23) := hide (by rw [hx2]; exact Blk.newAt _ _ rfl _ _)
      have TBx2 := hide (TBx1.out.below hb TBx1.out.lt)
      have HXx2 := hide hx2.symm
      clear hx2 hb WAx1
      simp only [HXx2.out]
      clear HXx2
      refine hK.out _ _ ?_ (fun hHeld => ?_)
      · exact WAx2.out
      clear hK K
      refine wpAnyH_ready (rs := [4]) (by kernel_rfl) (by simp) ?_
      refine AllReadyH.cons (o := Oper.mk (some 13) _ _ _ _ _) rfl (fun K hK => ?_) AllReadyH.nil
      go_simp
      refine (OC.out x2 WAx2.out.bel).mono ?_
      rintro e x3 ⟨HE, hbx3⟩
      obtain ⟨uo, uc, rfl, ho⟩ := HE.out
      have Zx3 := hide (show x2.heap.size ≤ x3.heap.size from hbx3.size)
      have WAx3 := hide (WAx2.out.below hbx3)
      have HOx3 := hide ho
      have TBx3 := hide (TBx2.out.below hbx3 TBx2.out.lt)
      have SBx3 := hide (SBx2.out.below hbx3 SBx2.out.lt)
      have OB := hide (fun k (q : (.slice uo n uc : Value).ownBlock = some k) => show x2.heap.size ≤ k ∧ k < x3.heap.size from World.ownsRow.lt ho k q)
      clear HE ho hbx3 OC WAx2
      refine hK.out _ _ ?_ (fun hHeld => ?_)
      · exact WAx3.out
      clear hK K
      have NT : Hid (¬ (.slice uo n uc : Value).ownBlock = some x0.heap.size) := hide (fun q => by have := OB.out _ q; have z1 := Zx1.out; have z2 := Zx2.out; have z3 := Zx3.out; have z0 := WAL.out; omega)
      have NS : Hid (¬ (.slice uo n uc : Value).ownBlock = some x1.heap.size) := hide (fun q => by have := OB.out _ q; have z1 := Zx1.out; have z2 := Zx2.out; have z3 := Zx3.out; have z0 := WAL.out; omega)
      have LT : Hid (w.heap.size < x0.heap.size ∧ w.heap.size < x1.heap.size ∧ ¬ x0.heap.size = x1.heap.size ∧ w.heap.size + 1 ≤ x2.heap.size) := hide (by have z1 := Zx1.out; have z2 := Zx2.out; have z3 := Zx3.out; have z0 := WAL.out; omega)
      have k0 := TBx3.out.cell 0
      have f0 := TBx3.out.free 0
      clear hHeld
      have W1 := hide (WAx3.out.setK LT.out.1 (.string T))
      have T1 := hide (TBx3.out.setN 0 (.string T))
      have S1 := hide (SBx3.out.setne (a := ⟨x0.heap.size, 0, none⟩) LT.out.2.2.1 (.string T))
      have O1 := hide (ownF_setne (a := ⟨x0.heap.size, 0, none⟩) HOx3.out NT.out (.string T))
      refine wpAnyH_ready (rs := [7]) (by kernel_rfl) (by simp) ?_
      refine AllReadyH.cons (o := Oper.mk none _ _ _ _ _) rfl (fun K hK => ?_) AllReadyH.nil
      go_simp
      refine hK.out _ _ ?_ (fun hHeld => ?_)
      · exact W1.out
      clear hK K
      clear k0 f0 hHeld
      have k0 := S1.out.cell 0
      have f0 := S1.out.free 0
      have W2 := hide (W1.out.setK LT.out.2.1 (.slice uo n uc))
      have T2 := hide (T1.out.setne (a := ⟨x1.heap.size, 0, none⟩) (fun q => LT.out.2.2.1 q.symm) (.slice uo n uc))
      have S2 := hide (S1.out.setN 0 (.slice uo n uc))
      have O2 := hide (ownF_setne (a := ⟨x1.heap.size, 0, none⟩) O1.out NS.out (.slice uo n uc))
      refine wpAnyH_ready (rs := [8]) (by kernel_rfl) (by simp) ?_
      refine AllReadyH.cons (o := Oper.mk none _ _ _ _ _) rfl (fun K hK => ?_) AllReadyH.nil
      go_simp
      refine hK.out _ _ ?_ (fun hHeld => ?_)
      · exact W2.out
      clear hK K
      refine wpAnyH_done (by kernel_rfl) ?_ _
      clear hHeld
      obtain ⟨X9, hX9⟩ : ∃ X9, X9 = ((x3.setCell ⟨x0.heap.size, 0, none⟩ (.string T)).setCell ⟨x1.heap.size, 0, none⟩ (.slice uo n uc)) := ⟨_, rfl⟩
      have HX9 := hide hX9.symm
      rw [HX9.out] at W2 T2 S2 O2
      simp only [HX9.out]
      clear hX9 HX9 W1 T1 S1 O1 k0 f0 TBx3 SBx3 HOx3 WAx3
      go_wp2
      go_ret
      exact ⟨hide ⟨x0.heap.size, x1.heap.size, _, rfl, T2.out, S2.out, (show OwnS _ X9 _ l from O2.out).spv, Nat.le_of_lt LT.out.1, Nat.le_of_lt LT.out.2.1⟩, W2.out.bel⟩
  · go_simp
    obtain ⟨x1, hx1⟩ : ∃ x1, x1 = x0.alloc (.cells #[.slice none 0 0] 23) := ⟨_, rfl⟩
    have hb : Below x0.heap.size x0 x1 := by rw [hx1]; exact (Below.refl _ _).alloc (Nat.le_refl _) _
    have Zx1 := hide (show x1.heap.size = x0.heap.size + 1 by rw [hx1, allocW_size])
    have WAx1 := hide (WAx0.out.below hb)
    have SBx1 : Hid (Blk x1 x0.heap.size #[.slice none 0 0] 23) := hide (by rw [hx1]; exact Blk.newAt _ _ rfl _ _)
    have HXx1 := hide hx1.symm
    clear hx1 hb WAx0
    simp only [HXx1.out]
    clear HXx1
    refine hK.out _ _ ?_ (fun hHeld => ?_)
    · exact WAx1.out
    clear hK K
    refine wpAnyH_ready (rs := [4, 5]) (by kernel_rfl) (by simp) ?_
    refine AllReadyH.cons (o := Oper.mk (some 13) _ _ _ _ _) rfl (fun K hK => ?_) (AllReadyH.cons (o := Oper.mk (some 3) _ _ _ _ _) rfl (fun K hK => ?_) AllReadyH.nil)
    · go_simp
      refine (OC.out x1 WAx1.out.bel).mono ?_
      rintro e x2 ⟨HE, hbx2⟩
      obtain ⟨uo, uc, rfl, ho⟩ := HE.out
      have Zx2 := hide (show x1.heap.size ≤ x2.heap.size from hbx2.size)
      have WAx2 := hide (WAx1.out.below hbx2)
      have HOx2 := hide ho
      have SBx2 := hide (SBx1.out.below hbx2 SBx1.out.lt)
      have OB := hide (fun k (q : (.slice uo n uc : Value).ownBlock = some k) => show x1.heap.size ≤ k ∧ k < x2.heap.size from World.ownsRow.lt ho k q)
      clear HE ho hbx2 OC WAx1
      refine hK.out _ _ ?_ (fun hHeld => ?_)
      · exact WAx2.out
      clear hK K
      refine wpAnyH_ready (rs := [5]) (by kernel_rfl) (by simp) ?_
      refine AllReadyH.cons (o := Oper.mk (some 3) _ _ _ _ _) rfl (fun K hK => ?_) AllReadyH.nil
      go_simp
      obtain ⟨x3, hx3⟩ : ∃ x3, x3 = x2.alloc (.cells #[.string ⟨#[]⟩] 9) := ⟨_, rfl⟩
      have hb : Below x2.heap.size x2 x3 := by rw [hx3]; exact (Below.refl _ _).alloc (Nat.le_refl _) _
      have Zx3 := hide (show x3.heap.size = x2.heap.size + 1 by rw [hx3, allocW_size])
      have WAx3 := hide (WAx2.out.below hb)
      have TBx3 : Hid (Blk x3 x2.heap.size #[.string ⟨#[]⟩] 9) := hide (by rw [hx3]; exact Blk.newAt _ _ rfl _ _)
      have SBx3 := hide (SBx2.out.below hb SBx2.out.lt)
      have HOx3 := hide (ownF_below HOx2.out hb)
      have HXx3 := hide hx3.symm
      clear hx3 hb WAx2
      simp only [HXx3.out]
      clear HXx3
      refine hK.out _ _ ?_ (fun hHeld => ?_)
      · exact WAx3.out
      clear hK K
      have NT : Hid (¬ (.slice uo n uc : Value).ownBlock = some x2.heap.size) := hide (fun q => by have := OB.out _ q; have z1 := Zx1.out; have z2 := Zx2.out; have z3 := Zx3.out; have z0 := WAL.out; omega)
      have NS : Hid (¬ (.slice uo n uc : Value).ownBlock = some x0.heap.size) := hide (fun q => by have := OB.out _ q; have z1 := Zx1.out; have z2 := Zx2.out; have z3 := Zx3.out; have z0 := WAL.out; omega)
      have LT : Hid (w.heap.size < x2.heap.size ∧ w.heap.size < x0.heap.size ∧ ¬ x2.heap.size = x0.heap.size ∧ w.heap.size + 1 ≤ x1.heap.size) := hide (by have z1 := Zx1.out; have z2 := Zx2.out; have z3 := Zx3.out; have z0 := WAL.out; omega)
      have k0 := TBx3.out.cell 0
      have f0 := TBx3.out.free 0
      clear hHeld
      have W1 := hide (WAx3.out.setK LT.out.1 (.string T))
      have T1 := hide (TBx3.out.setN 0 (.string T))
      have S1 := hide (SBx3.out.setne (a := ⟨x2.heap.size, 0, none⟩) LT.out.2.2.1 (.string T))
      have O1 := hide (ownF_setne (a := ⟨x2.heap.size, 0, none⟩) HOx3.out NT.out (.string T))
      refine wpAnyH_ready (rs := [7]) (by kernel_rfl) (by simp) ?_
      refine AllReadyH.cons (o := Oper.mk none _ _ _ _ _) rfl (fun K hK => ?_) AllReadyH.nil
      go_simp
      refine hK.out _ _ ?_ (fun hHeld => ?_)
      · exact W1.out
      clear hK K
      clear k0 f0 hHeld
      have k0 := S1.out.cell 0
      have f0 := S1.out.free 0
      have W2 := hide (W1.out.setK LT.out.2.1 (.slice uo n uc))
      have T2 := hide (T1.out.setne (a := ⟨x0.heap.size, 0, none⟩) (fun q => LT.out.2.2.1 q.symm) (.slice uo n uc))
      have S2 := hide (S1.out.setN 0 (.slice uo n uc))
      have O2 := hide (ownF_setne (a := ⟨x0.heap.size, 0, none⟩) O1.out NS.out (.slice uo n uc))
      refine wpAnyH_ready (rs := [8]) (by kernel_rfl) (by simp) ?_
      refine AllReadyH.cons (o := Oper.mk none _ _ _ _ _) rfl (fun K hK => ?_) AllReadyH.nil
      go_simp
      refine hK.out _ _ ?_ (fun hHeld => ?_)
      · exact W2.out
      clear hK K
      refine wpAnyH_done (by kernel_rfl) ?_ _
      clear hHeld
      obtain ⟨X9, hX9⟩ : ∃ X9, X9 = ((x3.setCell ⟨x2.heap.size, 0, none⟩ (.string T)).setCell ⟨x0.heap.size, 0, none⟩ (.slice uo n uc)) := ⟨_, rfl⟩
      have HX9 := hide hX9.symm
      rw [HX9.out] at W2 T2 S2 O2
      simp only [HX9.out]
      clear hX9 HX9 W1 T1 S1 O1 k0 f0 TBx3 SBx3 HOx3 WAx3
      go_wp2
      go_ret
      exact ⟨hide ⟨x2.heap.size, x0.heap.size, _, rfl, T2.out, S2.out, (show OwnS _ X9 _ l from O2.out).spv, Nat.le_of_lt LT.out.1, Nat.le_of_lt LT.out.2.1⟩, W2.out.bel⟩
    · go_simp
      obtain ⟨x2, hx2⟩ : ∃ x2, x2 = x1.alloc (.cells #[.string ⟨#[]⟩] 9) := ⟨_, rfl⟩
      have hb : Below x1.heap.size x1 x2 := by rw [hx2]; exact (Below.refl _ _).alloc (Nat.le_refl _) _
      have Zx2 := hide (show x2.heap.size = x1.heap.size + 1 by rw [hx2, allocW_size])
      have WAx2 := hide (WAx1.out.below hb)
      have TBx2 : Hid (Blk x2 x1.heap.size #[.string ⟨#[]⟩] 9) := hide (by rw [hx2]; exact Blk.newAt _ _ rfl _ _)
      have SBx2 := hide (SBx1.out.below hb SBx1.out.lt)
      have HXx2 := hide hx2.symm
      clear hx2 hb WAx1
      simp only [HXx2.out]
      clear HXx2
      refine hK.out _ _ ?_ (fun hHeld => ?_)
      · exact WAx2.out
      clear hK K
      refine wpAnyH_ready (rs := [4]) (by kernel_rfl) (by simp) ?_
      refine AllReadyH.cons (o := Oper.mk (some 13) _ _ _ _ _) rfl (fun K hK => ?_) AllReadyH.nil
      go_simp
      refine (OC.out x2 WAx2.out.bel).mono ?_
      rintro e x3 ⟨HE, hbx3⟩
      obtain ⟨uo, uc, rfl, ho⟩ := HE.out
      have Zx3 := hide (show x2.heap.size ≤ x3.heap.size from hbx3.size)
      have WAx3 := hide (WAx2.out.below hbx3)
      have HOx3 := hide ho
      have TBx3 := hide (TBx2.out.below hbx3 TBx2.out.lt)
      have SBx3 := hide (SBx2.out.below hbx3 SBx2.out.lt)
      have OB := hide (fun k (q : (.slice uo n uc : Value).ownBlock = some k) => show x2.heap.size ≤ k ∧ k < x3.heap.size from World.ownsRow.lt ho k q)
      clear HE ho hbx3 OC WAx2
      refine hK.out _ _ ?_ (fun hHeld => ?_)
      · exact WAx3.out
      clear hK K
      have NT : Hid (¬ (.slice uo n uc : Value).ownBlock = some x1.heap.size) := hide (fun q => by have := OB.out _ q; have z1 := Zx1.out; have z2 := Zx2.out; have z3 := Zx3.out; have z0 := WAL.out; omega)
      have NS : Hid (¬ (.slice uo n uc : Value).ownBlock = some x0.heap.size) := hide (fun q => by have := OB.out _ q; have z1 := Zx1.out; have z2 := Zx2.out; have z3 := Zx3.out; have z0 := WAL.out; omega)
      have LT : Hid (w.heap.size < x1.heap.size ∧ w.heap.size < x0.heap.size ∧ ¬ x1.heap.size = x0.heap.size ∧ w.heap.size + 1 ≤ x2.heap.size) := hide (by have z1 := Zx1.out; have z2 := Zx2.out; have z3 := Zx3.out; have z0 := WAL.out; omega)
      have k0 := TBx3.out.cell 0
      have f0 := TBx3.out.free 0
      clear hHeld
      have W1 := hide (WAx3.out.setK LT.out.1 (.string T))
      have T1 := hide (TBx3.out.setN 0 (.string T))
      have S1 := hide (SBx3.out.setne (a := ⟨x1.heap.size, 0, none⟩) LT.out.2.2.1 (.string T))
      have O1 := hide (ownF_setne (a := ⟨x1.heap.size, 0, none⟩) HOx3.out NT.out (.string T))
      refine wpAnyH_ready (rs := [7]) (by kernel_rfl) (by simp) ?_
      refine AllReadyH.cons (o := Oper.mk none _ _ _ _ _) rfl (fun K hK => ?_) AllReadyH.nil
      go_simp
      refine hK.out _ _ ?_ (fun hHeld => ?_)
      · exact W1.out
      clear hK K
      clear k0 f0 hHeld
      have k0 := S1.out.cell 0
      have f0 := S1.out.free 0
      have W2 := hide (W1.out.setK LT.out.2.1 (.slice uo n uc))
      have T2 := hide (T1.out.setne (a := ⟨x0.heap.size, 0, none⟩) (fun q => LT.out.2.2.1 q.symm) (.slice uo n uc))
      have S2 := hide (S1.out.setN 0 (.slice uo n uc))
      have O2 := hide (ownF_setne (a := ⟨x0.heap.size, 0, none⟩) O1.out NS.out (.slice uo n uc))
      refine wpAnyH_ready (rs := [8]) (by kernel_rfl) (by simp) ?_
      refine AllReadyH.cons (o := Oper.mk none _ _ _ _ _) rfl (fun K hK => ?_) AllReadyH.nil
      go_simp
      refine hK.out _ _ ?_ (fun hHeld => ?_)
      · exact W2.out
      clear hK K
      refine wpAnyH_done (by kernel_rfl) ?_ _
      clear hHeld
      obtain ⟨X9, hX9⟩ : ∃ X9, X9 = ((x3.setCell ⟨x1.heap.size, 0, none⟩ (.string T)).setCell ⟨x0.heap.size, 0, none⟩ (.slice uo n uc)) := ⟨_, rfl⟩
      have HX9 := hide hX9.symm
      rw [HX9.out] at W2 T2 S2 O2
      simp only [HX9.out]
      clear hX9 HX9 W1 T1 S1 O1 k0 f0 TBx3 SBx3 HOx3 WAx3
      go_wp2
      go_ret
      exact ⟨hide ⟨x1.heap.size, x0.heap.size, _, rfl, T2.out, S2.out, (show OwnS _ X9 _ l from O2.out).spv, Nat.le_of_lt LT.out.1, Nat.le_of_lt LT.out.2.1⟩, W2.out.bel⟩

set_option maxRecDepth 100000 in
set_option maxHeartbeats 16000000 in
theorem All_no (t : ByteArray) (v : Value) (l0 : List Sp) (w : World) (hT : U8 w) (ht : t.size ≤ 9223372036854775807) (hv : SpV w v l0) (hl : (l0.length + 1) * 24 ≤ 140737488355328) (hm : mayB t l0 = false) (T : ByteArray) (hTe : T = ⟨#[]⟩) (l : List Sp) (hle : l = []) :
    Calls Tryd.prog 21 #[.agg #[.string t, v]] w fun e w' => Hid (∃ bt bs va, e = .returned (.func (.func 42) #[] #[.pointer (some ⟨bs, 0, none⟩), .pointer (some ⟨bt, 0, none⟩)]) ∧ ItH w.heap.size w' bt bs T l va) ∧ Below w.heap.size w w' := by
  obtain ⟨ao0, cap0, rfl⟩ := hv.len
  obtain ⟨n0, hn⟩ : ∃ n, n = l0.length := ⟨_, rfl⟩
  obtain ⟨W1, hW1⟩ : ∃ W1, W1 = w.alloc (.cells #[.string t, .slice ao0 n0 cap0] 25) := ⟨_, rfl⟩
  have B1 := hide (show Below w.heap.size w W1 by rw [hW1]; exact (Below.refl _ _).alloc (Nat.le_refl _) _)
  have BX1 : Hid (Blk W1 w.heap.size #[.string t, .slice ao0 n0 cap0] 25) := hide (by rw [hW1]; exact Blk.newAt w _ rfl _ _)
  have HW := hide hW1.symm
  have C1 := hide (Check_any t _ l0 W1 (hT.below B1.out) ht (hv.below B1.out) hl)
  rw [hm] at C1
  rw [← hn] at C1 ⊢
  clear hW1 hv hT ht hl hm hn
  go_enter Tryd.func21, Tryd.ntmps21
  have c0 := BX1.out.cell 0
  have c1 := BX1.out.cell 1
  go_wp2_with (simp only [HW.out])
  refine C1.out.mono ?_
  rintro e w2 ⟨rfl, hb2⟩
  have e1 : errM false = 170 := rfl
  rw [e1]
  have B2 := hide (B1.out.trans (hb2.mono B1.out.size))
  have BX2 := hide (BX1.out.below hb2 BX1.out.lt)
  clear hb2 C1 c0 c1 HW B1 BX1
  have k0 := BX2.out.cell 0
  have k1 := BX2.out.cell 1
  have f0 := BX2.out.free 0
  have f1 := BX2.out.free 1
  go_wp2_with fail
  obtain ⟨w3, hw3⟩ : ∃ w3, w3 = ((w2.setCell ⟨w.heap.size, 0, none⟩ (.string ⟨#[]⟩)).setCell ⟨w.heap.size, 1, none⟩ (.slice none 0 0)) := ⟨_, rfl⟩
  have WA4 : Hid (WO w ⟨#[]⟩ (.slice none 0 0) w3) := hide (by rw [hw3]; exact ⟨(B2.out.setCell (p := ⟨w.heap.size, 0, none⟩) (Nat.le_refl _) _).setCell (p := ⟨w.heap.size, 1, none⟩) (Nat.le_refl _) _, (BX2.out.setN 0 (.string ⟨#[]⟩)).setN 1 (.slice none 0 0)⟩)
  have OC4 : Hid (∀ X, Below w.heap.size w X → Calls Tryd.prog 41 #[.slice none 0 0] X fun e w' => Hid (∃ uo uc, e = .returned (.slice uo 0 uc) ∧ OwnS X.heap.size w' (.slice uo 0 uc) l) ∧ Below X.heap.size X w') := hide (fun X hX => by
    subst hle
    exact Clone_any _ [] X (.none none 0 rfl rfl) (.inl rfl) (by decide))
  have HW3 := hide hw3.symm
  simp only [HW3.out]
  clear hw3 HW3 k0 k1 f0 f1 B2 BX2
  rw [← hTe] at WA4
  clear hTe hle
  obtain ⟨ao, hao⟩ : ∃ a : Option Addr, a = none := ⟨_, rfl⟩
  obtain ⟨cap, hcap⟩ : ∃ a : Nat, a = 0 := ⟨_, rfl⟩
  obtain ⟨n, hn⟩ : ∃ a : Nat, a = 0 := ⟨_, rfl⟩
  have WA3 : Hid (WO w T (.slice ao n cap) w3) := hide (by rw [hao, hcap, hn]; exact WA4.out)
  have OC : Hid (∀ X, Below w.heap.size w X → Calls Tryd.prog 41 #[.slice ao n cap] X fun e w' => Hid (∃ uo uc, e = .returned (.slice uo n uc) ∧ OwnS X.heap.size w' (.slice uo n uc) l) ∧ Below X.heap.size X w') := hide (by rw [hao, hcap, hn]; exact OC4.out)
  clear hao hcap hn WA4 OC4
  go_wp2_with fail
  refine wp_region_held_drew (S := WO w T (.slice ao n cap)) (by kernel_rfl) ?_ (fun hHeld => ?_)
  · exact WA3.out.below (Below.refl _ _).drew
  obtain ⟨x0, hx0⟩ : ∃ x0, x0 = w3.drew := ⟨_, rfl⟩
  have WAx0 : Hid (WO w T (.slice ao n cap) x0) := hide (by rw [hx0]; exact WA3.out.below (Below.refl _ _).drew)
  have WAL : Hid (w.heap.size < x0.heap.size) := hide WAx0.out.box.lt
  rw [← hx0]
  clear hx0 WA3
  refine wpAnyH_take (i := 0) (oi := Oper.mk (some 9) _ _ _ _ _) (v := .pointer (some ⟨w.heap.size, 0, none⟩)) rfl (by kernel_rfl) (by kernel_rfl) (by kernel_rfl) (fun _ _ _ h => h) (Or.inl ⟨by rfl, ?_⟩) (by assumption) ?_
  · intro wX hSw
    (try dsimp only at hSw)
    have k0 := hSw.box.cell 0; have k1 := hSw.box.cell 1
    go_simp
  simp only [Act.put, List.setIfInBounds_toArray, List.set_cons_succ, List.set_cons_zero]
  refine wpAnyH_take (i := 1) (oi := Oper.mk (some 10) _ _ _ _ _) (v := .string T) rfl (by kernel_rfl) (by kernel_rfl) (by kernel_rfl) (fun _ _ _ h => h) (Or.inl ⟨by rfl, ?_⟩) (by assumption) ?_
  · intro wX hSw
    (try dsimp only at hSw)
    have k0 := hSw.box.cell 0; have k1 := hSw.box.cell 1
    go_simp
  simp only [Act.put, List.setIfInBounds_toArray, List.set_cons_succ, List.set_cons_zero]
  refine wpAnyH_take (i := 2) (oi := Oper.mk (some 11) _ _ _ _ _) (v := .pointer (some ⟨w.heap.size, 1, none⟩)) rfl (by kernel_rfl) (by kernel_rfl) (by kernel_rfl) (fun _ _ _ h => h) (Or.inl ⟨by rfl, ?_⟩) (by assumption) ?_
  · intro wX hSw
    (try dsimp only at hSw)
    have k0 := hSw.box.cell 0; have k1 := hSw.box.cell 1
    go_simp
  simp only [Act.put, List.setIfInBounds_toArray, List.set_cons_succ, List.set_cons_zero]
  refine wpAnyH_take (i := 3) (oi := Oper.mk (some 12) _ _ _ _ _) (v := .slice ao n cap) rfl (by kernel_rfl) (by kernel_rfl) (by kernel_rfl) (fun _ _ _ h => h) (Or.inl ⟨by rfl, ?_⟩) (by assumption) ?_
  · intro wX hSw
    (try dsimp only at hSw)
    have k0 := hSw.box.cell 0; have k1 := hSw.box.cell 1
    go_simp
  simp only [Act.put, List.setIfInBounds_toArray, List.set_cons_succ, List.set_cons_zero]
  refine wpAnyH_ready (rs := [4, 5, 6]) (by kernel_rfl) (by simp) ?_
  refine AllReadyH.cons (o := Oper.mk (some 13) _ _ _ _ _) rfl (fun K hK => ?_) (AllReadyH.cons (o := Oper.mk (some 3) _ _ _ _ _) rfl (fun K hK => ?_) (AllReadyH.cons (o := Oper.mk (some 4) _ _ _ _ _) rfl (fun K hK => ?_) AllReadyH.nil))
  · go_simp
    refine (OC.out x0 WAx0.out.bel).mono ?_
    rintro e x1 ⟨HE, hbx1⟩
    obtain ⟨uo, uc, rfl, ho⟩ := HE.out
    have Zx1 := hide (show x0.heap.size ≤ x1.heap.size from hbx1.size)
    have WAx1 := hide (WAx0.out.below hbx1)
    have HOx1 := hide ho
    have OB := hide (fun k (q : (.slice uo n uc : Value).ownBlock = some k) => show x0.heap.size ≤ k ∧ k < x1.heap.size from World.ownsRow.lt ho k q)
    clear HE ho hbx1 OC WAx0
    refine hK.out _ _ ?_ (fun hHeld => ?_)
    · exact WAx1.out
    clear hK K
    refine wpAnyH_ready (rs := [5, 6]) (by kernel_rfl) (by simp) ?_
    refine AllReadyH.cons (o := Oper.mk (some 3) _ _ _ _ _) rfl (fun K hK => ?_) (AllReadyH.cons (o := Oper.mk (some 4) _ _ _ _ _) rfl (fun K hK => ?_) AllReadyH.nil)
    · go_simp
      obtain ⟨x2, hx2⟩ : ∃ x2, x2 = x1.alloc (.cells #[.string ⟨#[]⟩] 9) := ⟨_, rfl⟩
      have hb : Below x1.heap.size x1 x2 := by rw [hx2]; exact (Below.refl _ _).alloc (Nat.le_refl _) _
      have Zx2 := hide (show x2.heap.size = x1.heap.size + 1 by rw [hx2, allocW_size])
      have WAx2 := hide (WAx1.out.below hb)
      have TBx2 : Hid (Blk x2 x1.heap.size #[.string ⟨#[]⟩] 9) := hide (by rw [hx2]; exact Blk.newAt _ _ rfl _ _)
      have HOx2 := hide (ownF_below HOx1.out hb)
      have HXx2 := hide hx2.symm
      clear hx2 hb WAx1
      simp only [HXx2.out]
      clear HXx2
      refine hK.out _ _ ?_ (fun hHeld => ?_)
      · exact WAx2.out
      clear hK K
      refine wpAnyH_ready (rs := [6]) (by kernel_rfl) (by simp) ?_
      refine AllReadyH.cons (o := Oper.mk (some 4) _ _ _ _ _) rfl (fun K hK => ?_) AllReadyH.nil
      go_simp
      obtain ⟨x3, hx3⟩ : ∃ x3, x3 = x2.alloc (.cells #[.slice none 0 0] 23) := ⟨_, rfl⟩
      have hb : Below x2.heap.size x2 x3 := by rw [hx3]; exact (Below.refl _ _).alloc (Nat.le_refl _) _
      have Zx3 := hide (show x3.heap.size = x2.heap.size + 1 by rw [hx3, allocW_size])
      have WAx3 := hide (WAx2.out.below hb)
      have SBx3 : Hid (Blk x3 x2.heap.size #[.slice none 0 0] 23) := hide (by rw [hx3]; exact Blk.newAt _ _ rfl _ _)
      have TBx3 := hide (TBx2.out.below hb TBx2.out.lt)
      have HOx3 := hide (ownF_below HOx2.out hb)
      have HXx3 := hide hx3.symm
      clear hx3 hb WAx2
      simp only [HXx3.out]
      clear HXx3
      refine hK.out _ _ ?_ (fun hHeld => ?_)
      · exact WAx3.out
      clear hK K
      have NT : Hid (¬ (.slice uo n uc : Value).ownBlock = some x1.heap.size) := hide (fun q => by have := OB.out _ q; have z1 := Zx1.out; have z2 := Zx2.out; have z3 := Zx3.out; have z0 := WAL.out; omega)
      have NS : Hid (¬ (.slice uo n uc : Value).ownBlock = some x2.heap.size) := hide (fun q => by have := OB.out _ q; have z1 := Zx1.out; have z2 := Zx2.out; have z3 := Zx3.out; have z0 := WAL.out; omega)
      have LT : Hid (w.heap.size < x1.heap.size ∧ w.heap.size < x2.heap.size ∧ ¬ x1.heap.size = x2.heap.size ∧ w.heap.size + 1 ≤ x0.heap.size) := hide (by have z1 := Zx1.out; have z2 := Zx2.out; have z3 := Zx3.out; have z0 := WAL.out; omega)
      have k0 := TBx3.out.cell 0
      have f0 := TBx3.out.free 0
      clear hHeld
      have W1 := hide (WAx3.out.setK LT.out.1 (.string T))
      have T1 := hide (TBx3.out.setN 0 (.string T))
      have S1 := hide (SBx3.out.setne (a := ⟨x1.heap.size, 0, none⟩) LT.out.2.2.1 (.string T))
      have O1 := hide (ownF_setne (a := ⟨x1.heap.size, 0, none⟩) HOx3.out NT.out (.string T))
      refine wpAnyH_ready (rs := [7]) (by kernel_rfl) (by simp) ?_
      refine AllReadyH.cons (o := Oper.mk none _ _ _ _ _) rfl (fun K hK => ?_) AllReadyH.nil
      go_simp
      refine hK.out _ _ ?_ (fun hHeld => ?_)
      · exact W1.out
      clear hK K
      clear k0 f0 hHeld
      have k0 := S1.out.cell 0
      have f0 := S1.out.free 0
      have W2 := hide (W1.out.setK LT.out.2.1 (.slice uo n uc))
      have T2 := hide (T1.out.setne (a := ⟨x2.heap.size, 0, none⟩) (fun q => LT.out.2.2.1 q.symm) (.slice uo n uc))
      have S2 := hide (S1.out.setN 0 (.slice uo n uc))
      have O2 := hide (ownF_setne (a := ⟨x2.heap.size, 0, none⟩) O1.out NS.out (.slice uo n uc))
      refine wpAnyH_ready (rs := [8]) (by kernel_rfl) (by simp) ?_
      refine AllReadyH.cons (o := Oper.mk none _ _ _ _ _) rfl (fun K hK => ?_) AllReadyH.nil
      go_simp
      refine hK.out _ _ ?_ (fun hHeld => ?_)
      · exact W2.out
      clear hK K
      refine wpAnyH_done (by kernel_rfl) ?_ _
      clear hHeld
      obtain ⟨X9, hX9⟩ : ∃ X9, X9 = ((x3.setCell ⟨x1.heap.size, 0, none⟩ (.string T)).setCell ⟨x2.heap.size, 0, none⟩ (.slice uo n uc)) := ⟨_, rfl⟩
      have HX9 := hide hX9.symm
      rw [HX9.out] at W2 T2 S2 O2
      simp only [HX9.out]
      clear hX9 HX9 W1 T1 S1 O1 k0 f0 TBx3 SBx3 HOx3 WAx3
      go_wp2
      go_ret
      exact ⟨hide ⟨x1.heap.size, x2.heap.size, _, rfl, T2.out, S2.out, (show OwnS _ X9 _ l from O2.out).spv, Nat.le_of_lt LT.out.1, Nat.le_of_lt LT.out.2.1⟩, W2.out.bel⟩
    · go_simp
      obtain ⟨x2, hx2⟩ : ∃ x2, x2 = x1.alloc (.cells #[.slice none 0 0] 23) := ⟨_, rfl⟩
      have hb : Below x1.heap.size x1 x2 := by rw [hx2]; exact (Below.refl _ _).alloc (Nat.le_refl _) _
      have Zx2 := hide (show x2.heap.size = x1.heap.size + 1 by rw [hx2, allocW_size])
      have WAx2 := hide (WAx1.out.below hb)
      have SBx2 : Hid (Blk x2 x1.heap.size #[.slice none 0 0] 23) := hide (by rw [hx2]; exact Blk.newAt _ _ rfl _ _)
      have HOx2 := hide (ownF_below HOx1.out hb)
      have HXx2 := hide hx2.symm
      clear hx2 hb WAx1
      simp only [HXx2.out]
      clear HXx2
      refine hK.out _ _ ?_ (fun hHeld => ?_)
      · exact WAx2.out
      clear hK K
      refine wpAnyH_ready (rs := [5]) (by kernel_rfl) (by simp) ?_
      refine AllReadyH.cons (o := Oper.mk (some 3) _ _ _ _ _) rfl (fun K hK => ?_) AllReadyH.nil
      go_simp
      obtain ⟨x3, hx3⟩ : ∃ x3, x3 = x2.alloc (.cells #[.string ⟨#[]⟩] 9) := ⟨_, rfl⟩
      have hb : Below x2.heap.size x2 x3 := by rw [hx3]; exact (Below.refl _ _).alloc (Nat.le_refl _) _
      have Zx3 := hide (show x3.heap.size = x2.heap.size + 1 by rw [hx3, allocW_size])
      have WAx3 := hide (WAx2.out.below hb)
      have TBx3 : Hid (Blk x3 x2.heap.size #[.string ⟨#[]⟩] 9) := hide (by rw [hx3]; exact Blk.newAt _ _ rfl _ _)
      have SBx3 := hide (SBx2.out.below hb SBx2.out.lt)
      have HOx3 := hide (ownF_below HOx2.out hb)
      have HXx3 := hide hx3.symm
      clear hx3 hb WAx2
      simp only [HXx3.out]
      clear HXx3
      refine hK.out _ _ ?_ (fun hHeld => ?_)
      · exact WAx3.out
      clear hK K
      have NT : Hid (¬ (.slice uo n uc : Value).ownBlock = some x2.heap.size) := hide (fun q => by have := OB.out _ q; have z1 := Zx1.out; have z2 := Zx2.out; have z3 := Zx3.out; have z0 := WAL.out; omega)
      have NS : Hid (¬ (.slice uo n uc : Value).ownBlock = some x1.heap.size) := hide (fun q => by have := OB.out _ q; have z1 := Zx1.out; have z2 := Zx2.out; have z3 := Zx3.out; have z0 := WAL.out; omega)
      have LT : Hid (w.heap.size < x2.heap.size ∧ w.heap.size < x1.heap.size ∧ ¬ x2.heap.size = x1.heap.size ∧ w.heap.size + 1 ≤ x0.heap.size) := hide (by have z1 := Zx1.out; have z2 := Zx2.out; have z3 := Zx3.out; have z0 := WAL.out; omega)
      have k0 := TBx3.out.cell 0
      have f0 := TBx3.out.free 0
      clear hHeld
      have W1 := hide (WAx3.out.setK LT.out.1 (.string T))
      have T1 := hide (TBx3.out.setN 0 (.string T))
      have S1 := hide (SBx3.out.setne (a := ⟨x2.heap.size, 0, none⟩) LT.out.2.2.1 (.string T))
      have O1 := hide (ownF_setne (a := ⟨x2.heap.size, 0, none⟩) HOx3.out NT.out (.string T))
      refine wpAnyH_ready (rs := [7]) (by kernel_rfl) (by simp) ?_
      refine AllReadyH.cons (o := Oper.mk none _ _ _ _ _) rfl (fun K hK => ?_) AllReadyH.nil
      go_simp
      refine hK.out _ _ ?_ (fun hHeld => ?_)
      · exact W1.out
      clear hK K
      clear k0 f0 hHeld
      have k0 := S1.out.cell 0
      have f0 := S1.out.free 0
      have W2 := hide (W1.out.setK LT.out.2.1 (.slice uo n uc))
      have T2 := hide (T1.out.setne (a := ⟨x1.heap.size, 0, none⟩) (fun q => LT.out.2.2.1 q.symm) (.slice uo n uc))
      have S2 := hide (S1.out.setN 0 (.slice uo n uc))
      have O2 := hide (ownF_setne (a := ⟨x1.heap.size, 0, none⟩) O1.out NS.out (.slice uo n uc))
      refine wpAnyH_ready (rs := [8]) (by kernel_rfl) (by simp) ?_
      refine AllReadyH.cons (o := Oper.mk none _ _ _ _ _) rfl (fun K hK => ?_) AllReadyH.nil
      go_simp
      refine hK.out _ _ ?_ (fun hHeld => ?_)
      · exact W2.out
      clear hK K
      refine wpAnyH_done (by kernel_rfl) ?_ _
      clear hHeld
      obtain ⟨X9, hX9⟩ : ∃ X9, X9 = ((x3.setCell ⟨x2.heap.size, 0, none⟩ (.string T)).setCell ⟨x1.heap.size, 0, none⟩ (.slice uo n uc)) := ⟨_, rfl⟩
      have HX9 := hide hX9.symm
      rw [HX9.out] at W2 T2 S2 O2
      simp only [HX9.out]
      clear hX9 HX9 W1 T1 S1 O1 k0 f0 TBx3 SBx3 HOx3 WAx3
      go_wp2
      go_ret
      exact ⟨hide ⟨x2.heap.size, x1.heap.size, _, rfl, T2.out, S2.out, (show OwnS _ X9 _ l from O2.out).spv, Nat.le_of_lt LT.out.1, Nat.le_of_lt LT.out.2.1⟩, W2.out.bel⟩
  · go_simp
    obtain ⟨x1, hx1⟩ : ∃ x1, x1 = x0.alloc (.cells #[.string ⟨#[]⟩] 9) := ⟨_, rfl⟩
    have hb : Below x0.heap.size x0 x1 := by rw [hx1]; exact (Below.refl _ _).alloc (Nat.le_refl _) _
    have Zx1 := hide (show x1.heap.size = x0.heap.size + 1 by rw [hx1, allocW_size])
    have WAx1 := hide (WAx0.out.below hb)
    have TBx1 : Hid (Blk x1 x0.heap.size #[.string ⟨#[]⟩] 9) := hide (by rw [hx1]; exact Blk.newAt _ _ rfl _ _)
    have HXx1 := hide hx1.symm
    clear hx1 hb WAx0
    simp only [HXx1.out]
    clear HXx1
    refine hK.out _ _ ?_ (fun hHeld => ?_)
    · exact WAx1.out
    clear hK K
    refine wpAnyH_ready (rs := [4, 6]) (by kernel_rfl) (by simp) ?_
    refine AllReadyH.cons (o := Oper.mk (some 13) _ _ _ _ _) rfl (fun K hK => ?_) (AllReadyH.cons (o := Oper.mk (some 4) _ _ _ _ _) rfl (fun K hK => ?_) AllReadyH.nil)
    · go_simp
      refine (OC.out x1 WAx1.out.bel).mono ?_
      rintro e x2 ⟨HE, hbx2⟩
      obtain ⟨uo, uc, rfl, ho⟩ := HE.out
      have Zx2 := hide (show x1.heap.size ≤ x2.heap.size from hbx2.size)
      have WAx2 := hide (WAx1.out.below hbx2)
      have HOx2 := hide ho
      have TBx2 := hide (TBx1.out.below hbx2 TBx1.out.lt)
      have OB := hide (fun k (q : (.slice uo n uc : Value).ownBlock = some k) => show x1.heap.size ≤ k ∧ k < x2.heap.size from World.ownsRow.lt ho k q)
      clear HE ho hbx2 OC WAx1
      refine hK.out _ _ ?_ (fun hHeld => ?_)
      · exact WAx2.out
      clear hK K
      refine wpAnyH_ready (rs := [6]) (by kernel_rfl) (by simp) ?_
      refine AllReadyH.cons (o := Oper.mk (some 4) _ _ _ _ _) rfl (fun K hK => ?_) AllReadyH.nil
      go_simp
      obtain ⟨x3, hx3⟩ : ∃ x3, x3 = x2.alloc (.cells #[.slice none 0 0] 23) := ⟨_, rfl⟩
      have hb : Below x2.heap.size x2 x3 := by rw [hx3]; exact (Below.refl _ _).alloc (Nat.le_refl _) _
      have Zx3 := hide (show x3.heap.size = x2.heap.size + 1 by rw [hx3, allocW_size])
      have WAx3 := hide (WAx2.out.below hb)
      have SBx3 : Hid (Blk x3 x2.heap.size #[.slice none 0 0] 23) := hide (by rw [hx3]; exact Blk.newAt _ _ rfl _ _)
      have TBx3 := hide (TBx2.out.below hb TBx2.out.lt)
      have HOx3 := hide (ownF_below HOx2.out hb)
      have HXx3 := hide hx3.symm
      clear hx3 hb WAx2
      simp only [HXx3.out]
      clear HXx3
      refine hK.out _ _ ?_ (fun hHeld => ?_)
      · exact WAx3.out
      clear hK K
      have NT : Hid (¬ (.slice uo n uc : Value).ownBlock = some x0.heap.size) := hide (fun q => by have := OB.out _ q; have z1 := Zx1.out; have z2 := Zx2.out; have z3 := Zx3.out; have z0 := WAL.out; omega)
      have NS : Hid (¬ (.slice uo n uc : Value).ownBlock = some x2.heap.size) := hide (fun q => by have := OB.out _ q; have z1 := Zx1.out; have z2 := Zx2.out; have z3 := Zx3.out; have z0 := WAL.out; omega)
      have LT : Hid (w.heap.size < x0.heap.size ∧ w.heap.size < x2.heap.size ∧ ¬ x0.heap.size = x2.heap.size ∧ w.heap.size + 1 ≤ x1.heap.size) := hide (by have z1 := Zx1.out; have z2 := Zx2.out; have z3 := Zx3.out; have z0 := WAL.out; omega)
      have k0 := TBx3.out.cell 0
      have f0 := TBx3.out.free 0
      clear hHeld
      have W1 := hide (WAx3.out.setK LT.out.1 (.string T))
      have T1 := hide (TBx3.out.setN 0 (.string T))
      have S1 := hide (SBx3.out.setne (a := ⟨x0.heap.size, 0, none⟩) LT.out.2.2.1 (.string T))
      have O1 := hide (ownF_setne (a := ⟨x0.heap.size, 0, none⟩) HOx3.out NT.out (.string T))
      refine wpAnyH_ready (rs := [7]) (by kernel_rfl) (by simp) ?_
      refine AllReadyH.cons (o := Oper.mk none _ _ _ _ _) rfl (fun K hK => ?_) AllReadyH.nil
      go_simp
      refine hK.out _ _ ?_ (fun hHeld => ?_)
      · exact W1.out
      clear hK K
      clear k0 f0 hHeld
      have k0 := S1.out.cell 0
      have f0 := S1.out.free 0
      have W2 := hide (W1.out.setK LT.out.2.1 (.slice uo n uc))
      have T2 := hide (T1.out.setne (a := ⟨x2.heap.size, 0, none⟩) (fun q => LT.out.2.2.1 q.symm) (.slice uo n uc))
      have S2 := hide (S1.out.setN 0 (.slice uo n uc))
      have O2 := hide (ownF_setne (a := ⟨x2.heap.size, 0, none⟩) O1.out NS.out (.slice uo n uc))
      refine wpAnyH_ready (rs := [8]) (by kernel_rfl) (by simp) ?_
      refine AllReadyH.cons (o := Oper.mk none _ _ _ _ _) rfl (fun K hK => ?_) AllReadyH.nil
      go_simp
      refine hK.out _ _ ?_ (fun hHeld => ?_)
      · exact W2.out
      clear hK K
      refine wpAnyH_done (by kernel_rfl) ?_ _
      clear hHeld
      obtain ⟨X9, hX9⟩ : ∃ X9, X9 = ((x3.setCell ⟨x0.heap.size, 0, none⟩ (.string T)).setCell ⟨x2.heap.size, 0, none⟩ (.slice uo n uc)) := ⟨_, rfl⟩
      have HX9 := hide hX9.symm
      rw [HX9.out] at W2 T2 S2 O2
      simp only [HX9.out]
      clear hX9 HX9 W1 T1 S1 O1 k0 f0 TBx3 SBx3 HOx3 WAx3
      go_wp2
      go_ret
      exact ⟨hide ⟨x0.heap.size, x2.heap.size, _, rfl, T2.out, S2.out, (show OwnS _ X9 _ l from O2.out).spv, Nat.le_of_lt LT.out.1, Nat.le_of_lt LT.out.2.1⟩, W2.out.bel⟩
    · go_simp
      obtain ⟨x2, hx2⟩ : ∃ x2, x2 = x1.alloc (.cells #[.slice none 0 0] 23) := ⟨_, rfl⟩
      have hb : Below x1.heap.size x1 x2 := by rw [hx2]; exact (Below.refl _ _).alloc (Nat.le_refl _) _
      have Zx2 := hide (show x2.heap.size = x1.heap.size + 1 by rw [hx2, allocW_size])
      have WAx2 := hide (WAx1.out.below hb)
      have SBx2 : Hid (Blk x2 x1.heap.size #[.slice none 0 0] 23) := hide (by rw [hx2]; exact Blk.newAt _ _ rfl _ _)
      have TBx2 := hide (TBx1.out.below hb TBx1.out.lt)
      have HXx2 := hide hx2.symm
      clear hx2 hb WAx1
      simp only [HXx2.out]
      clear HXx2
      refine hK.out _ _ ?_ (fun hHeld => ?_)
      · exact WAx2.out
      clear hK K
      refine wpAnyH_ready (rs := [4]) (by kernel_rfl) (by simp) ?_
      refine AllReadyH.cons (o := Oper.mk (some 13) _ _ _ _ _) rfl (fun K hK => ?_) AllReadyH.nil
      go_simp
      refine (OC.out x2 WAx2.out.bel).mono ?_
      rintro e x3 ⟨HE, hbx3⟩
      obtain ⟨uo, uc, rfl, ho⟩ := HE.out
      have Zx3 := hide (show x2.heap.size ≤ x3.heap.size from hbx3.size)
      have WAx3 := hide (WAx2.out.below hbx3)
      have HOx3 := hide ho
      have TBx3 := hide (TBx2.out.below hbx3 TBx2.out.lt)
      have SBx3 := hide (SBx2.out.below hbx3 SBx2.out.lt)
      have OB := hide (fun k (q : (.slice uo n uc : Value).ownBlock = some k) => show x2.heap.size ≤ k ∧ k < x3.heap.size from World.ownsRow.lt ho k q)
      clear HE ho hbx3 OC WAx2
      refine hK.out _ _ ?_ (fun hHeld => ?_)
      · exact WAx3.out
      clear hK K
      have NT : Hid (¬ (.slice uo n uc : Value).ownBlock = some x0.heap.size) := hide (fun q => by have := OB.out _ q; have z1 := Zx1.out; have z2 := Zx2.out; have z3 := Zx3.out; have z0 := WAL.out; omega)
      have NS : Hid (¬ (.slice uo n uc : Value).ownBlock = some x1.heap.size) := hide (fun q => by have := OB.out _ q; have z1 := Zx1.out; have z2 := Zx2.out; have z3 := Zx3.out; have z0 := WAL.out; omega)
      have LT : Hid (w.heap.size < x0.heap.size ∧ w.heap.size < x1.heap.size ∧ ¬ x0.heap.size = x1.heap.size ∧ w.heap.size + 1 ≤ x2.heap.size) := hide (by have z1 := Zx1.out; have z2 := Zx2.out; have z3 := Zx3.out; have z0 := WAL.out; omega)
      have k0 := TBx3.out.cell 0
      have f0 := TBx3.out.free 0
      clear hHeld
      have W1 := hide (WAx3.out.setK LT.out.1 (.string T))
      have T1 := hide (TBx3.out.setN 0 (.string T))
      have S1 := hide (SBx3.out.setne (a := ⟨x0.heap.size, 0, none⟩) LT.out.2.2.1 (.string T))
      have O1 := hide (ownF_setne (a := ⟨x0.heap.size, 0, none⟩) HOx3.out NT.out (.string T))
      refine wpAnyH_ready (rs := [7]) (by kernel_rfl) (by simp) ?_
      refine AllReadyH.cons (o := Oper.mk none _ _ _ _ _) rfl (fun K hK => ?_) AllReadyH.nil
      go_simp
      refine hK.out _ _ ?_ (fun hHeld => ?_)
      · exact W1.out
      clear hK K
      clear k0 f0 hHeld
      have k0 := S1.out.cell 0
      have f0 := S1.out.free 0
      have W2 := hide (W1.out.setK LT.out.2.1 (.slice uo n uc))
      have T2 := hide (T1.out.setne (a := ⟨x1.heap.size, 0, none⟩) (fun q => LT.out.2.2.1 q.symm) (.slice uo n uc))
      have S2 := hide (S1.out.setN 0 (.slice uo n uc))
      have O2 := hide (ownF_setne (a := ⟨x1.heap.size, 0, none⟩) O1.out NS.out (.slice uo n uc))
      refine wpAnyH_ready (rs := [8]) (by kernel_rfl) (by simp) ?_
      refine AllReadyH.cons (o := Oper.mk none _ _ _ _ _) rfl (fun K hK => ?_) AllReadyH.nil
      go_simp
      refine hK.out _ _ ?_ (fun hHeld => ?_)
      · exact W2.out
      clear hK K
      refine wpAnyH_done (by kernel_rfl) ?_ _
      clear hHeld
      obtain ⟨X9, hX9⟩ : ∃ X9, X9 = ((x3.setCell ⟨x0.heap.size, 0, none⟩ (.string T)).setCell ⟨x1.heap.size, 0, none⟩ (.slice uo n uc)) := ⟨_, rfl⟩
      have HX9 := hide hX9.symm
      rw [HX9.out] at W2 T2 S2 O2
      simp only [HX9.out]
      clear hX9 HX9 W1 T1 S1 O1 k0 f0 TBx3 SBx3 HOx3 WAx3
      go_wp2
      go_ret
      exact ⟨hide ⟨x0.heap.size, x1.heap.size, _, rfl, T2.out, S2.out, (show OwnS _ X9 _ l from O2.out).spv, Nat.le_of_lt LT.out.1, Nat.le_of_lt LT.out.2.1⟩, W2.out.bel⟩
  · go_simp
    obtain ⟨x1, hx1⟩ : ∃ x1, x1 = x0.alloc (.cells #[.slice none 0 0] 23) := ⟨_, rfl⟩
    have hb : Below x0.heap.size x0 x1 := by rw [hx1]; exact (Below.refl _ _).alloc (Nat.le_refl _) _
    have Zx1 := hide (show x1.heap.size = x0.heap.size + 1 by rw [hx1, allocW_size])
    have WAx1 := hide (WAx0.out.below hb)
    have SBx1 : Hid (Blk x1 x0.heap.size #[.slice none 0 0] 23) := hide (by rw [hx1]; exact Blk.newAt _ _ rfl _ _)
    have HXx1 := hide hx1.symm
    clear hx1 hb WAx0
    simp only [HXx1.out]
    clear HXx1
    refine hK.out _ _ ?_ (fun hHeld => ?_)
    · exact WAx1.out
    clear hK K
    refine wpAnyH_ready (rs := [4, 5]) (by kernel_rfl) (by simp) ?_
    refine AllReadyH.cons (o := Oper.mk (some 13) _ _ _ _ _) rfl (fun K hK => ?_) (AllReadyH.cons (o := Oper.mk (some 3) _ _ _ _ _) rfl (fun K hK => ?_) AllReadyH.nil)
    · go_simp
      refine (OC.out x1 WAx1.out.bel).mono ?_
      rintro e x2 ⟨HE, hbx2⟩
      obtain ⟨uo, uc, rfl, ho⟩ := HE.out
      have Zx2 := hide (show x1.heap.size ≤ x2.heap.size from hbx2.size)
      have WAx2 := hide (WAx1.out.below hbx2)
      have HOx2 := hide ho
      have SBx2 := hide (SBx1.out.below hbx2 SBx1.out.lt)
      have OB := hide (fun k (q : (.slice uo n uc : Value).ownBlock = some k) => show x1.heap.size ≤ k ∧ k < x2.heap.size from World.ownsRow.lt ho k q)
      clear HE ho hbx2 OC WAx1
      refine hK.out _ _ ?_ (fun hHeld => ?_)
      · exact WAx2.out
      clear hK K
      refine wpAnyH_ready (rs := [5]) (by kernel_rfl) (by simp) ?_
      refine AllReadyH.cons (o := Oper.mk (some 3) _ _ _ _ _) rfl (fun K hK => ?_) AllReadyH.nil
      go_simp
      obtain ⟨x3, hx3⟩ : ∃ x3, x3 = x2.alloc (.cells #[.string ⟨#[]⟩] 9) := ⟨_, rfl⟩
      have hb : Below x2.heap.size x2 x3 := by rw [hx3]; exact (Below.refl _ _).alloc (Nat.le_refl _) _
      have Zx3 := hide (show x3.heap.size = x2.heap.size + 1 by rw [hx3, allocW_size])
      have WAx3 := hide (WAx2.out.below hb)
      have TBx3 : Hid (Blk x3 x2.heap.size #[.string ⟨#[]⟩] 9) := hide (by rw [hx3]; exact Blk.newAt _ _ rfl _ _)
      have SBx3 := hide (SBx2.out.below hb SBx2.out.lt)
      have HOx3 := hide (ownF_below HOx2.out hb)
      have HXx3 := hide hx3.symm
      clear hx3 hb WAx2
      simp only [HXx3.out]
      clear HXx3
      refine hK.out _ _ ?_ (fun hHeld => ?_)
      · exact WAx3.out
      clear hK K
      have NT : Hid (¬ (.slice uo n uc : Value).ownBlock = some x2.heap.size) := hide (fun q => by have := OB.out _ q; have z1 := Zx1.out; have z2 := Zx2.out; have z3 := Zx3.out; have z0 := WAL.out; omega)
      have NS : Hid (¬ (.slice uo n uc : Value).ownBlock = some x0.heap.size) := hide (fun q => by have := OB.out _ q; have z1 := Zx1.out; have z2 := Zx2.out; have z3 := Zx3.out; have z0 := WAL.out; omega)
      have LT : Hid (w.heap.size < x2.heap.size ∧ w.heap.size < x0.heap.size ∧ ¬ x2.heap.size = x0.heap.size ∧ w.heap.size + 1 ≤ x1.heap.size) := hide (by have z1 := Zx1.out; have z2 := Zx2.out; have z3 := Zx3.out; have z0 := WAL.out; omega)
      have k0 := TBx3.out.cell 0
      have f0 := TBx3.out.free 0
      clear hHeld
      have W1 := hide (WAx3.out.setK LT.out.1 (.string T))
      have T1 := hide (TBx3.out.setN 0 (.string T))
      have S1 := hide (SBx3.out.setne (a := ⟨x2.heap.size, 0, none⟩) LT.out.2.2.1 (.string T))
      have O1 := hide (ownF_setne (a := ⟨x2.heap.size, 0, none⟩) HOx3.out NT.out (.string T))
      refine wpAnyH_ready (rs := [7]) (by kernel_rfl) (by simp) ?_
      refine AllReadyH.cons (o := Oper.mk none _ _ _ _ _) rfl (fun K hK => ?_) AllReadyH.nil
      go_simp
      refine hK.out _ _ ?_ (fun hHeld => ?_)
      · exact W1.out
      clear hK K
      clear k0 f0 hHeld
      have k0 := S1.out.cell 0
      have f0 := S1.out.free 0
      have W2 := hide (W1.out.setK LT.out.2.1 (.slice uo n uc))
      have T2 := hide (T1.out.setne (a := ⟨x0.heap.size, 0, none⟩) (fun q => LT.out.2.2.1 q.symm) (.slice uo n uc))
      have S2 := hide (S1.out.setN 0 (.slice uo n uc))
      have O2 := hide (ownF_setne (a := ⟨x0.heap.size, 0, none⟩) O1.out NS.out (.slice uo n uc))
      refine wpAnyH_ready (rs := [8]) (by kernel_rfl) (by simp) ?_
      refine AllReadyH.cons (o := Oper.mk none _ _ _ _ _) rfl (fun K hK => ?_) AllReadyH.nil
      go_simp
      refine hK.out _ _ ?_ (fun hHeld => ?_)
      · exact W2.out
      clear hK K
      refine wpAnyH_done (by kernel_rfl) ?_ _
      clear hHeld
      obtain ⟨X9, hX9⟩ : ∃ X9, X9 = ((x3.setCell ⟨x2.heap.size, 0, none⟩ (.string T)).setCell ⟨x0.heap.size, 0, none⟩ (.slice uo n uc)) := ⟨_, rfl⟩
      have HX9 := hide hX9.symm
      rw [HX9.out] at W2 T2 S2 O2
      simp only [HX9.out]
      clear hX9 HX9 W1 T1 S1 O1 k0 f0 TBx3 SBx3 HOx3 WAx3
      go_wp2
      go_ret
      exact ⟨hide ⟨x2.heap.size, x0.heap.size, _, rfl, T2.out, S2.out, (show OwnS _ X9 _ l from O2.out).spv, Nat.le_of_lt LT.out.1, Nat.le_of_lt LT.out.2.1⟩, W2.out.bel⟩
    · go_simp
      obtain ⟨x2, hx2⟩ : ∃ x2, x2 = x1.alloc (.cells #[.string ⟨#[]⟩] 9) := ⟨_, rfl⟩
      have hb : Below x1.heap.size x1 x2 := by rw [hx2]; exact (Below.refl _ _).alloc (Nat.le_refl _) _
      have Zx2 := hide (show x2.heap.size = x1.heap.size + 1 by rw [hx2, allocW_size])
      have WAx2 := hide (WAx1.out.below hb)
      have TBx2 : Hid (Blk x2 x1.heap.size #[.string ⟨#[]⟩] 9) := hide (by rw [hx2]; exact Blk.newAt _ _ rfl _ _)
      have SBx2 := hide (SBx1.out.below hb SBx1.out.lt)
      have HXx2 := hide hx2.symm
      clear hx2 hb WAx1
      simp only [HXx2.out]
      clear HXx2
      refine hK.out _ _ ?_ (fun hHeld => ?_)
      · exact WAx2.out
      clear hK K
      refine wpAnyH_ready (rs := [4]) (by kernel_rfl) (by simp) ?_
      refine AllReadyH.cons (o := Oper.mk (some 13) _ _ _ _ _) rfl (fun K hK => ?_) AllReadyH.nil
      go_simp
      refine (OC.out x2 WAx2.out.bel).mono ?_
      rintro e x3 ⟨HE, hbx3⟩
      obtain ⟨uo, uc, rfl, ho⟩ := HE.out
      have Zx3 := hide (show x2.heap.size ≤ x3.heap.size from hbx3.size)
      have WAx3 := hide (WAx2.out.below hbx3)
      have HOx3 := hide ho
      have TBx3 := hide (TBx2.out.below hbx3 TBx2.out.lt)
      have SBx3 := hide (SBx2.out.below hbx3 SBx2.out.lt)
      have OB := hide (fun k (q : (.slice uo n uc : Value).ownBlock = some k) => show x2.heap.size ≤ k ∧ k < x3.heap.size from World.ownsRow.lt ho k q)
      clear HE ho hbx3 OC WAx2
      refine hK.out _ _ ?_ (fun hHeld => ?_)
      · exact WAx3.out
      clear hK K
      have NT : Hid (¬ (.slice uo n uc : Value).ownBlock = some x1.heap.size) := hide (fun q => by have := OB.out _ q; have z1 := Zx1.out; have z2 := Zx2.out; have z3 := Zx3.out; have z0 := WAL.out; omega)
      have NS : Hid (¬ (.slice uo n uc : Value).ownBlock = some x0.heap.size) := hide (fun q => by have := OB.out _ q; have z1 := Zx1.out; have z2 := Zx2.out; have z3 := Zx3.out; have z0 := WAL.out; omega)
      have LT : Hid (w.heap.size < x1.heap.size ∧ w.heap.size < x0.heap.size ∧ ¬ x1.heap.size = x0.heap.size ∧ w.heap.size + 1 ≤ x2.heap.size) := hide (by have z1 := Zx1.out; have z2 := Zx2.out; have z3 := Zx3.out; have z0 := WAL.out; omega)
      have k0 := TBx3.out.cell 0
      have f0 := TBx3.out.free 0
      clear hHeld
      have W1 := hide (WAx3.out.setK LT.out.1 (.string T))
      have T1 := hide (TBx3.out.setN 0 (.string T))
      have S1 := hide (SBx3.out.setne (a := ⟨x1.heap.size, 0, none⟩) LT.out.2.2.1 (.string T))
      have O1 := hide (ownF_setne (a := ⟨x1.heap.size, 0, none⟩) HOx3.out NT.out (.string T))
      refine wpAnyH_ready (rs := [7]) (by kernel_rfl) (by simp) ?_
      refine AllReadyH.cons (o := Oper.mk none _ _ _ _ _) rfl (fun K hK => ?_) AllReadyH.nil
      go_simp
      refine hK.out _ _ ?_ (fun hHeld => ?_)
      · exact W1.out
      clear hK K
      clear k0 f0 hHeld
      have k0 := S1.out.cell 0
      have f0 := S1.out.free 0
      have W2 := hide (W1.out.setK LT.out.2.1 (.slice uo n uc))
      have T2 := hide (T1.out.setne (a := ⟨x0.heap.size, 0, none⟩) (fun q => LT.out.2.2.1 q.symm) (.slice uo n uc))
      have S2 := hide (S1.out.setN 0 (.slice uo n uc))
      have O2 := hide (ownF_setne (a := ⟨x0.heap.size, 0, none⟩) O1.out NS.out (.slice uo n uc))
      refine wpAnyH_ready (rs := [8]) (by kernel_rfl) (by simp) ?_
      refine AllReadyH.cons (o := Oper.mk none _ _ _ _ _) rfl (fun K hK => ?_) AllReadyH.nil
      go_simp
      refine hK.out _ _ ?_ (fun hHeld => ?_)
      · exact W2.out
      clear hK K
      refine wpAnyH_done (by kernel_rfl) ?_ _
      clear hHeld
      obtain ⟨X9, hX9⟩ : ∃ X9, X9 = ((x3.setCell ⟨x1.heap.size, 0, none⟩ (.string T)).setCell ⟨x0.heap.size, 0, none⟩ (.slice uo n uc)) := ⟨_, rfl⟩
      have HX9 := hide hX9.symm
      rw [HX9.out] at W2 T2 S2 O2
      simp only [HX9.out]
      clear hX9 HX9 W1 T1 S1 O1 k0 f0 TBx3 SBx3 HOx3 WAx3
      go_wp2
      go_ret
      exact ⟨hide ⟨x1.heap.size, x0.heap.size, _, rfl, T2.out, S2.out, (show OwnS _ X9 _ l from O2.out).spv, Nat.le_of_lt LT.out.1, Nat.le_of_lt LT.out.2.1⟩, W2.out.bel⟩

end Go.Proofs.YtkgapklhgkngnaaDoor
