/-
  The building's put.
  Of a list of pieces: may one of them not be?
  What ordered answers.
  What Build answers.
-/
import Derived.Test.YtkgapklhgkngnaaDoorEB5
import Derived.Test.YtkgapklhgkngnaaDoorEB3
namespace Go.Proofs.YtkgapklhgkngnaaDoor
open Go.RowKit

attribute [local go_sem ↓] Go.wp_at_zero Go.wp_at_succ

def pieS (f : Int) (own : Sp) (sp : List Sp) (dg : Sp) : List Sp := if f = 2 then sp else if f = 3 then sp ++ [own] else if f = 0 then endS sp dg else endS sp dg ++ [own]
def pieG (f : Int) (own dg : Sp) : Sp := if f = 2 then digS dg own else if f = 3 then dg else spN
theorem OthF.blk {D : Nat} {r : Option Nat} {a b : World} (h : OthF D r a b) {g : Nat} {cs : Array Value} {t : TypeId} (hg : Blk a g cs t) (hn : g ≠ D) (hr : some g ≠ r) : Blk b g cs t := by
  have hlt := hg.lt
  unfold Blk at *
  rw [h.2 g hlt hn hr]
  exact hg
theorem endS_len (sp : List Sp) (dg : Sp) : (endS sp dg).length ≤ sp.length + 1 := by
  unfold endS
  split
  · rw [List.length_append, List.length_singleton]; exact Nat.le_refl _
  · omega

structure PutR (D : Nat) (l : List UInt8) (sp : List Sp) (dg : Sp) (W w : World) : Prop where
  ex : ∃ p v sv, BgV w D l sp dg p v sv
  bel : Below D W w

set_option maxRecDepth 100000 in
set_option maxHeartbeats 16000000 in
theorem put_any {w : World} {D : Nat} {l : List UInt8} {sp : List Sp} {dg : Sp} {p v sv : Value} (t : ByteArray) (f : Int) (h : BgV w D l sp dg p v sv) (ht : t.size ≠ 0) (hlen : l.length + t.size ≤ 140737488355328) (hl : (sp.length + 2) * 24 ≤ 140737488355328) :
    Calls Tryd.prog 24 #[.pointer (some ⟨D, 0, none⟩), .agg #[.string t, .int .i64 f]] w fun e w' => e = .returned (.tuple #[]) ∧ Hid (PutR D (l ++ bys t) (pieS f ⟨f, (l.length : Int), (l.length : Int) + t.size⟩ sp dg) (pieG f ⟨f, (l.length : Int), (l.length : Int) + t.size⟩ dg) w w') := by
  have hDw := h.blk.lt
  obtain ⟨n, hn⟩ : ∃ n, n = l.length := ⟨_, rfl⟩
  obtain ⟨z, hz⟩ : ∃ z : Int, z = (n : Int) + t.size := ⟨_, rfl⟩
  rw [← hn] at hlen ⊢
  rw [← hz]
  obtain ⟨W1, hW1⟩ : ∃ W1, W1 = w.alloc (.cells #[.string t, .int .i64 f] 50) := ⟨_, rfl⟩
  have B1 := hide (show Below w.heap.size w W1 by rw [hW1]; exact (Below.refl _ _).alloc (Nat.le_refl _) _)
  have H1 := hide (h.below B1.out)
  have PB : Hid (Blk W1 w.heap.size #[.string t, .int .i64 f] 50) := hide (by rw [hW1]; exact Blk.newAt w _ rfl _ _)
  obtain ⟨P, hP⟩ : ∃ P, P = w.heap.size := ⟨_, rfl⟩
  have hPD : P ≠ D := by omega
  have HW := hide hW1.symm
  have HP := hide hP.symm
  rw [← hP] at PB
  have hPW := PB.out.lt
  have q0 : W1.cell? ⟨P, 0, none⟩ = some (.string t) := PB.out.cell 0
  have q1 : W1.cell? ⟨P, 1, none⟩ = some (.int .i64 f) := PB.out.cell 1
  have n1 : ¬ W1.heap.size = P := by omega
  have n2 : ¬ P = W1.heap.size := by omega
  have LN : Hid (∀ X, BgV X D l sp dg p v sv → Calls Tryd.prog 44 #[.pointer (some ⟨D, 0, none⟩)] X fun e w' => e = .returned (.int .i64 (n : Int)) ∧ w' = X) := hide (fun X hX => by rw [hn]; exact blen_any hX)
  have kw : IntKind.i64.wrap ((n : Int) + (t.size : Int)) = z := by rw [hz]; exact IntWalk.i64_in _ (by omega)
  have BD1 := hide (B1.out.mono (Nat.le_of_lt hDw))
  have HHN := hide hn
  have HCW : Hid (∀ X, BgV X D l sp dg p v sv → Calls Tryd.prog 45 #[.pointer (some ⟨D, 0, none⟩), .string t] X fun e w' => e = .returned (.tuple #[.int .i64 t.size, .nilIface]) ∧ (∃ p' v', BgV w' D (l ++ bys t) sp dg p' v' sv) ∧ KwB D X w') := hide (fun X hX => bput_any t hX ht (by rw [← hn]; exact hlen))
  clear hW1 h hn hP hz
  have HT := hide ht
  go_enter Tryd.func24, Tryd.ntmps24
  go_wp2_with (simp only [HW.out])
  simp only [HP.out]
  have x0 := World.new_ne W1 ⟨P, 0, none⟩ q0
  have x1 := World.new_ne W1 ⟨P, 1, none⟩ q1
  go_region_held3 (fun X => X.cell? ⟨P, 0, none⟩ = some (.string t) ∧ X.cell? ⟨P, 1, none⟩ = some (.int .i64 f)) (go_keep)
    ((go_at_call 44; refine (LN.out _ (by first | exact H1.out.below (Below.refl _ _).drew | exact H1.out.below ((Below.refl _ _).alloc (Nat.le_refl _) _).drew)).mono ?_; rintro e w' ⟨rfl, rfl⟩))
  all_goals
    obtain ⟨W2, hW2⟩ : ∃ W2, W2 = (W1.alloc (.cells #[.int .i64 f, .int .i64 (n : Int), .int .i64 z] 31)).drew := ⟨_, rfl⟩
    rw [← hW2]
    have B2 : Below W1.heap.size W1 W2 := by rw [hW2]; exact ((Below.refl _ _).alloc (Nat.le_refl _) _).drew
    have H2 := hide (H1.out.below B2)
    have PB2 := hide (PB.out.below B2 hPW)
    obtain ⟨G, hG⟩ : ∃ G, G = W1.heap.size := ⟨_, rfl⟩
    have OB2 : Hid (Blk W2 G #[.int .i64 f, .int .i64 (n : Int), .int .i64 z] 31) := hide (by
      rw [hW2]
      have q := Blk.newAt W1 G hG.symm #[.int .i64 f, .int .i64 (n : Int), .int .i64 z] 31
      exact q)
    rw [← hG]
    have hGD : G ≠ D := by have := H1.out.blk.lt; omega
    have hGS : some G ≠ sv.ownBlock := fun e => by have := (World.ownsRow.lt H1.out.spn G e.symm).2; omega
    have BW2 := hide (BD1.out.trans (B2.mono (Nat.le_of_lt H1.out.blk.lt)))
    have CW := hide (HCW.out W2.drew (H2.out.below (Below.refl _ _).drew))
    have r0 : W2.cell? ⟨P, 0, none⟩ = some (.string t) := PB2.out.cell 0
    clear hW2 B2 hG n1 n2 x0 x1 q0 q1 H1 PB kw LN BD1 HCW B1 HW HP
    go_wp2_with fail
    go_region_held3 (fun X => X.cell? ⟨P, 0, none⟩ = some (.string t)) (go_keep)
      ((go_at_call 45; refine CW.out.mono ?_; rintro e w3 ⟨rfl, ⟨p3, v3, h3⟩, k3⟩; have PB3 := hide (k3.blk (show Blk W2.drew P #[.string t, .int .i64 f] 50 from PB2.out) hPD (by decide)); have r3 : w3.cell? ⟨P, 0, none⟩ = some (.string t) := PB3.out.cell 0))
    have H3 := hide h3
    have OB3 := hide (k3.blk (show Blk W2.drew G #[.int .i64 f, .int .i64 (n : Int), .int .i64 z] 31 from OB2.out) hGD (by decide))
    have BW3 := hide (BW2.out.drew.trans k3.bel)
    have r4 : w3.cell? ⟨P, 1, none⟩ = some (.int .i64 f) := PB3.out.cell 1
    have r5 : w3.cell? ⟨G, 0, none⟩ = some (.int .i64 f) := OB3.out.cell 0
    have r6 : w3.cell? ⟨G, 1, none⟩ = some (.int .i64 (n : Int)) := OB3.out.cell 1
    have r7 : w3.cell? ⟨G, 2, none⟩ = some (.int .i64 z) := OB3.out.cell 2
    clear h3 k3 CW H2 PB2 OB2 BW2 r0
    by_cases hf2 : f = 2
    · have e2 : (f == 2) = true := by simpa using hf2
      have CP := hide (putD_any ⟨f, (n : Int), z⟩ H3.out)
      have ES : Hid (pieS f ⟨f, (n : Int), z⟩ sp dg = sp ∧ pieG f ⟨f, (n : Int), z⟩ dg = digS dg ⟨f, (n : Int), z⟩) := hide ⟨by unfold pieS; rw [if_pos hf2], by unfold pieG; rw [if_pos hf2]⟩
      clear hf2
      go_wp2_with fail
      refine CP.out.mono ?_
      rintro e w4 ⟨rfl, h4, b4⟩
      have E4 : Hid (PutR D (l ++ bys t) (pieS f ⟨f, (n : Int), z⟩ sp dg) (pieG f ⟨f, (n : Int), z⟩ dg) w w4) := hide ⟨⟨_, _, _, by rw [ES.out.1, ES.out.2]; exact h4⟩, BW3.out.trans b4⟩
      clear h4 b4 CP ES
      go_wp2
      go_end0
      exact ⟨rfl, E4⟩
    have e2 : (f == 2) = false := by simpa using hf2
    by_cases hf3 : f = 3
    · have e3 : (f == 3) = true := by simpa using hf3
      have ES : Hid (pieS f ⟨f, (n : Int), z⟩ sp dg = sp ++ [⟨f, (n : Int), z⟩] ∧ pieG f ⟨f, (n : Int), z⟩ dg = dg) := hide ⟨by unfold pieS; rw [if_neg hf2, if_pos hf3], by unfold pieG; rw [if_neg hf2, if_pos hf3]⟩
      clear hf2 hf3
      obtain ⟨i0, hi, hz0, hz1, hz2⟩ := info_parts infoSp
      obtain ⟨so, sc, hso⟩ := ownF_slice H3.out.spn
      obtain ⟨k, hk⟩ : ∃ k, k = (sp).length := ⟨_, rfl⟩
      rw [← hk] at hso
      obtain ⟨xs, hxs⟩ : ∃ xs, xs = cellsS (sp) := ⟨_, rfl⟩
      have HX : Hid (k + 1 = ((sp) ++ [(⟨f, (n : Int), z⟩ : Sp)]).length ∧ xs ++ [.int .i64 f, .int .i64 (n : Int), .int .i64 z] = cellsS ((sp) ++ [⟨f, (n : Int), z⟩])) := hide ⟨by rw [hk]; simp, by rw [hxs, cellsS_app]; rfl⟩
      have hlk : (k + 1) * 24 ≤ 140737488355328 := by rw [hk]; exact bndL hl (Nat.le_succ _)
      have hl2 : k + 1 ≤ maxLen := by unfold maxLen; exact Nat.le_trans (bnd0 hlk) (by decide)
      have c2 : w3.cell? ⟨D, 2, none⟩ = some (.slice so k sc) := by rw [← hso]; exact H3.out.blk.cell 2
      have s0 : ScB G 0 ⟨f, (n : Int), z⟩ w3.drew := ⟨OB3.out.cell 0, OB3.out.cell 1, OB3.out.cell 2⟩
      have HBX := H3.out.below (show Below w3.heap.size w3 w3.drew from (Below.refl _ _).drew)
      rw [hso] at HBX
      have HB := hide HBX
      have OBD : Hid (Blk w3.drew G #[.int .i64 f, .int .i64 (n : Int), .int .i64 z] 31) := hide OB3.out
      have OW : Hid ((w3.drew.alloc (.cells #[.int .i64 f, .int .i64 (n : Int), .int .i64 z] 31)).ownsRow (D + 1) 31 3 (.slice so k sc) k xs) := hide (by rw [hk, hxs]; have q := (HB.out.below ((Below.refl _ _).alloc (Nat.le_refl _) (.cells #[.int .i64 f, .int .i64 (n : Int), .int .i64 z] 31))).spn; rw [hk] at q; exact q)
      have HDX : Hid (D < w3.drew.heap.size) := hide HB.out.blk.lt
      have BASE : Hid (D + 1 ≤ (w3.drew.alloc (.cells #[.int .i64 f, .int .i64 (n : Int), .int .i64 z] 31)).heap.size) := hide (Nat.le_trans HDX.out (((Below.refl w3.drew.heap.size w3.drew).alloc (Nat.le_refl _) _).size))
      have m1 : ¬ w3.heap.size = D := by have := HDX.out; exact fun e => Nat.lt_irrefl D (by rw [← e] at this ⊢; exact this)
      have m2 : ¬ D = w3.heap.size := fun e => m1 e.symm
      have hGO : some G ≠ (Value.slice so k sc).ownBlock := by rw [← hso]; exact hGS
      clear hk hxs hso HBX
      go_wp2_with fail
      refine wp_region_held_drew (S := (ScB G 0 (⟨f, (n : Int), z⟩ : Sp))) (by kernel_rfl) ?_ (fun hHeld => ?_)
      · exact s0
      refine wpAnyH_take (i := 0) (oi := Oper.mk (some 47) _ _ _ _ _) (v := .pointer (some ⟨D, 0, none⟩)) rfl (by kernel_rfl) (by kernel_rfl) (by kernel_rfl) (fun _ _ _ h => h) (Or.inl ⟨by rfl, ?_⟩) (by assumption) ?_
      · intro wX hSw
        (try dsimp only at hSw)
        go_simp
      simp only [Act.put, List.setIfInBounds_toArray, List.set_cons_succ, List.set_cons_zero]
      refine wpAnyH_take (i := 1) (oi := Oper.mk (some 48) _ _ _ _ _) (v := .pointer (some ⟨D, 0, none⟩)) rfl (by kernel_rfl) (by kernel_rfl) (by kernel_rfl) (fun _ _ _ h => h) (Or.inl ⟨by rfl, ?_⟩) (by assumption) ?_
      · intro wX hSw
        (try dsimp only at hSw)
        go_simp
      simp only [Act.put, List.setIfInBounds_toArray, List.set_cons_succ, List.set_cons_zero]
      refine wpAnyH_take (i := 2) (oi := Oper.mk (some 49) _ _ _ _ _) (v := .pointer (some ⟨D, 0, none⟩)) rfl (by kernel_rfl) (by kernel_rfl) (by kernel_rfl) (fun _ _ _ h => h) (Or.inl ⟨by rfl, ?_⟩) (by assumption) ?_
      · intro wX hSw
        (try dsimp only at hSw)
        go_simp
      simp only [Act.put, List.setIfInBounds_toArray, List.set_cons_succ, List.set_cons_zero]
      refine wpAnyH_take (i := 3) (oi := Oper.mk (some 50) _ _ _ _ _) (v := .pointer (some ⟨D, 2, none⟩)) rfl (by kernel_rfl) (by kernel_rfl) (by kernel_rfl) (fun _ _ _ h => h) (Or.inl ⟨by rfl, ?_⟩) (by assumption) ?_
      · intro wX hSw
        (try dsimp only at hSw)
        go_simp
      simp only [Act.put, List.setIfInBounds_toArray, List.set_cons_succ, List.set_cons_zero]
      refine wpAnyH_take (i := 5) (oi := Oper.mk (some 52) _ _ _ _ _) (v := .agg #[.int .i64 f, .int .i64 (n : Int), .int .i64 z]) rfl (by kernel_rfl) (by kernel_rfl) (by kernel_rfl) (fun _ _ _ h => h) (Or.inl ⟨by rfl, ?_⟩) (by assumption) ?_
      · intro wX hSw
        (try dsimp only at hSw)
        obtain ⟨q0, q1, q2⟩ := hSw
        go_simp
      simp only [Act.put, List.setIfInBounds_toArray, List.set_cons_succ, List.set_cons_zero]
      refine wpAnyH_ready (rs := [4, 6]) (by kernel_rfl) (by simp) ?_
      refine AllReadyH.cons (o := Oper.mk (some 51) _ _ _ _ _) rfl (fun K hK => ?_) (AllReadyH.cons (o := Oper.mk (some 53) _ _ _ _ _) rfl (fun K hK => ?_) AllReadyH.nil)
      · go_simp
        refine hK.out _ _ ?_ (fun hHeld => ?_)
        · assumption
        clear hK K
        refine wpAnyH_ready (rs := [6]) (by kernel_rfl) (by simp) ?_
        refine AllReadyH.cons (o := Oper.mk (some 53) _ _ _ _ _) rfl (fun K hK => ?_) AllReadyH.nil
        go_simp
        refine hK.out _ _ ?_ (fun hHeld => ?_)
        · exact (ScB.below s0 ((Below.refl _ _).alloc (Nat.le_refl _) _))
        clear hK K
        refine wpAnyH_ready (rs := [7]) (by kernel_rfl) (by simp) ?_
        refine AllReadyH.cons (o := Oper.mk (some 54) _ _ _ _ _) rfl (fun K hK => ?_) AllReadyH.nil
        refine step_append_lies _ (by rfl) _ _ _ (by rfl) (D + 1) 31 i0 (.agg #[.int .i64 0, .int .i64 0, .int .i64 0]) 3 24 Tryd.underlying23 hi hz0 hz1 hz2 rfl (by decide) (.slice so k sc) k xs (by rfl) OW.out ⟨w3.drew.heap.size, 0, none⟩ 1 1 [.int .i64 f, .int .i64 (n : Int), .int .i64 z] (by rfl) rfl (news_sp (⟨f, (n : Int), z⟩ : Sp) _) (one_sp (⟨f, (n : Int), z⟩ : Sp)) (by decide) hl2 hlk BASE.out _ rfl ?_
        intro g cp w4x hown hgr hat hlt
        obtain ⟨GX, GO, GL, GF⟩ := HB.out.grown (s := (⟨f, (n : Int), z⟩ : Sp)) hgr
        have y2 := GX.cell 2
        have y3 := GX.free 2
        have GX2 := hide GX
        have GO2 := hide GO
        have GL2 := hide GL
        have GF2 := hide GF
        have HO2 := hide hown
        have HAT := hide hat
        have OG : Blk w4x G #[.int .i64 f, .int .i64 (n : Int), .int .i64 z] 31 := GF.blk OBD.out hGD hGO
        have y5 : w4x.cell? ⟨G, 0, none⟩ = some (.int .i64 f) := OG.cell 0
        have y6 : w4x.cell? ⟨G, 1, none⟩ = some (.int .i64 (n : Int)) := OG.cell 1
        have y7 : w4x.cell? ⟨G, 2, none⟩ = some (.int .i64 z) := OG.cell 2
        have hDG : ¬ D = G := fun e => hGD e.symm
        clear hgr hat hlt GX GO GL GF hown
        refine hK.out _ _ ?_ (fun hHeld => ?_)
        · exact ⟨y5, y6, y7⟩
        clear hK K
        refine wpAnyH_take (i := 8) (oi := Oper.mk (some 55) _ _ _ _ _) (v := .pointer (some ⟨D, 0, none⟩)) rfl (by kernel_rfl) (by kernel_rfl) (by kernel_rfl) (fun _ _ _ h => h) (Or.inl ⟨by rfl, ?_⟩) (by assumption) ?_
        · intro wX hSw
          (try dsimp only at hSw)
          go_simp
        simp only [Act.put, List.setIfInBounds_toArray, List.set_cons_succ, List.set_cons_zero]
        refine wpAnyH_take (i := 9) (oi := Oper.mk (some 56) _ _ _ _ _) (v := .pointer (some ⟨D, 2, none⟩)) rfl (by kernel_rfl) (by kernel_rfl) (by kernel_rfl) (fun _ _ _ h => h) (Or.inl ⟨by rfl, ?_⟩) (by assumption) ?_
        · intro wX hSw
          (try dsimp only at hSw)
          go_simp
        simp only [Act.put, List.setIfInBounds_toArray, List.set_cons_succ, List.set_cons_zero]
        refine wpAnyH_ready (rs := [10]) (by kernel_rfl) (by simp) ?_
        refine AllReadyH.cons (o := Oper.mk none _ _ _ _ _) rfl (fun K hK => ?_) AllReadyH.nil
        go_simp
        refine hK.out _ _ ?_ (fun hHeld => ?_)
        · exact ⟨by simp [go_sem, y5], by simp [go_sem, y6], by simp [go_sem, y7]⟩
        clear hK K
        refine wpAnyH_done (by kernel_rfl) ?_ _
        clear hHeld
        go_wp2
        go_end0
        have BK := GX2.out.setN 2 (.slice (some ⟨g, 0, none⟩) (k + 1) cp)
        refine ⟨rfl, hide ⟨⟨p3, v3, .slice (some ⟨g, 0, none⟩) (k + 1) cp, ?_⟩, ((BW3.out.drew.trans GL2.out).setCell (p := ⟨D, 2, none⟩) (Nat.le_refl _) _)⟩⟩
        rw [ES.out.1, ES.out.2]
        refine ⟨BK, HB.out.ptr, ownF_set GO2.out (Nat.lt_succ_self D), HB.out.nil, ?_⟩
        unfold OwnS
        rw [← HX.out.1, ← HX.out.2]
        exact ownF_set HO2.out (Nat.lt_succ_self D)
      · go_simp
        refine hK.out _ _ ?_ (fun hHeld => ?_)
        · exact (ScB.below s0 ((Below.refl _ _).alloc (Nat.le_refl _) _))
        clear hK K
        refine wpAnyH_ready (rs := [4]) (by kernel_rfl) (by simp) ?_
        refine AllReadyH.cons (o := Oper.mk (some 51) _ _ _ _ _) rfl (fun K hK => ?_) AllReadyH.nil
        have c2a : (w3.alloc (.cells #[.int .i64 f, .int .i64 (n : Int), .int .i64 z] 31)).cell? ⟨D, 2, none⟩ = some (.slice so k sc) := (((Below.refl w3.drew.heap.size w3.drew).alloc (Nat.le_refl _) _).cell (p := ⟨D, 2, none⟩) HDX.out).trans c2
        go_simp
        refine hK.out _ _ ?_ (fun hHeld => ?_)
        · assumption
        clear hK K
        refine wpAnyH_ready (rs := [7]) (by kernel_rfl) (by simp) ?_
        refine AllReadyH.cons (o := Oper.mk (some 54) _ _ _ _ _) rfl (fun K hK => ?_) AllReadyH.nil
        refine step_append_lies _ (by rfl) _ _ _ (by rfl) (D + 1) 31 i0 (.agg #[.int .i64 0, .int .i64 0, .int .i64 0]) 3 24 Tryd.underlying23 hi hz0 hz1 hz2 rfl (by decide) (.slice so k sc) k xs (by rfl) OW.out ⟨w3.drew.heap.size, 0, none⟩ 1 1 [.int .i64 f, .int .i64 (n : Int), .int .i64 z] (by rfl) rfl (news_sp (⟨f, (n : Int), z⟩ : Sp) _) (one_sp (⟨f, (n : Int), z⟩ : Sp)) (by decide) hl2 hlk BASE.out _ rfl ?_
        intro g cp w4x hown hgr hat hlt
        obtain ⟨GX, GO, GL, GF⟩ := HB.out.grown (s := (⟨f, (n : Int), z⟩ : Sp)) hgr
        have y2 := GX.cell 2
        have y3 := GX.free 2
        have GX2 := hide GX
        have GO2 := hide GO
        have GL2 := hide GL
        have GF2 := hide GF
        have HO2 := hide hown
        have HAT := hide hat
        have OG : Blk w4x G #[.int .i64 f, .int .i64 (n : Int), .int .i64 z] 31 := GF.blk OBD.out hGD hGO
        have y5 : w4x.cell? ⟨G, 0, none⟩ = some (.int .i64 f) := OG.cell 0
        have y6 : w4x.cell? ⟨G, 1, none⟩ = some (.int .i64 (n : Int)) := OG.cell 1
        have y7 : w4x.cell? ⟨G, 2, none⟩ = some (.int .i64 z) := OG.cell 2
        have hDG : ¬ D = G := fun e => hGD e.symm
        clear hgr hat hlt GX GO GL GF hown
        refine hK.out _ _ ?_ (fun hHeld => ?_)
        · exact ⟨y5, y6, y7⟩
        clear hK K
        refine wpAnyH_take (i := 8) (oi := Oper.mk (some 55) _ _ _ _ _) (v := .pointer (some ⟨D, 0, none⟩)) rfl (by kernel_rfl) (by kernel_rfl) (by kernel_rfl) (fun _ _ _ h => h) (Or.inl ⟨by rfl, ?_⟩) (by assumption) ?_
        · intro wX hSw
          (try dsimp only at hSw)
          go_simp
        simp only [Act.put, List.setIfInBounds_toArray, List.set_cons_succ, List.set_cons_zero]
        refine wpAnyH_take (i := 9) (oi := Oper.mk (some 56) _ _ _ _ _) (v := .pointer (some ⟨D, 2, none⟩)) rfl (by kernel_rfl) (by kernel_rfl) (by kernel_rfl) (fun _ _ _ h => h) (Or.inl ⟨by rfl, ?_⟩) (by assumption) ?_
        · intro wX hSw
          (try dsimp only at hSw)
          go_simp
        simp only [Act.put, List.setIfInBounds_toArray, List.set_cons_succ, List.set_cons_zero]
        refine wpAnyH_ready (rs := [10]) (by kernel_rfl) (by simp) ?_
        refine AllReadyH.cons (o := Oper.mk none _ _ _ _ _) rfl (fun K hK => ?_) AllReadyH.nil
        go_simp
        refine hK.out _ _ ?_ (fun hHeld => ?_)
        · exact ⟨by simp [go_sem, y5], by simp [go_sem, y6], by simp [go_sem, y7]⟩
        clear hK K
        refine wpAnyH_done (by kernel_rfl) ?_ _
        clear hHeld
        go_wp2
        go_end0
        have BK := GX2.out.setN 2 (.slice (some ⟨g, 0, none⟩) (k + 1) cp)
        refine ⟨rfl, hide ⟨⟨p3, v3, .slice (some ⟨g, 0, none⟩) (k + 1) cp, ?_⟩, ((BW3.out.drew.trans GL2.out).setCell (p := ⟨D, 2, none⟩) (Nat.le_refl _) _)⟩⟩
        rw [ES.out.1, ES.out.2]
        refine ⟨BK, HB.out.ptr, ownF_set GO2.out (Nat.lt_succ_self D), HB.out.nil, ?_⟩
        unfold OwnS
        rw [← HX.out.1, ← HX.out.2]
        exact ownF_set HO2.out (Nat.lt_succ_self D)
    have e3 : (f == 3) = false := by simpa using hf3
    have CE := hide (endD_any H3.out (bndL hl (Nat.le_succ _)))
    by_cases hf0 : f = 0
    · have e0 : (f == 0) = true := by simpa using hf0
      have ES : Hid (pieS f ⟨f, (n : Int), z⟩ sp dg = endS sp dg ∧ pieG f ⟨f, (n : Int), z⟩ dg = spN) := hide ⟨by unfold pieS; rw [if_neg hf2, if_neg hf3, if_pos hf0], by unfold pieG; rw [if_neg hf2, if_neg hf3]⟩
      clear hf2 hf3 hf0
      go_wp2_with fail
      refine CE.out.mono ?_
      rintro e w4 ⟨rfl, h4, b4, _⟩
      have E4 : Hid (PutR D (l ++ bys t) (pieS f ⟨f, (n : Int), z⟩ sp dg) (pieG f ⟨f, (n : Int), z⟩ dg) w w4) := hide (by
        obtain ⟨sv4, q, _⟩ := h4.out
        exact ⟨⟨_, _, _, by rw [ES.out.1, ES.out.2]; exact q⟩, BW3.out.trans b4⟩)
      clear h4 b4 CE ES
      go_wp2
      go_end0
      exact ⟨rfl, E4⟩
    · have e0 : (f == 0) = false := by simpa using hf0
      have ES : Hid (pieS f ⟨f, (n : Int), z⟩ sp dg = endS sp dg ++ [⟨f, (n : Int), z⟩] ∧ pieG f ⟨f, (n : Int), z⟩ dg = spN) := hide ⟨by unfold pieS; rw [if_neg hf2, if_neg hf3, if_neg hf0], by unfold pieG; rw [if_neg hf2, if_neg hf3]⟩
      have hl4 : Hid (((endS sp dg).length + 1) * 24 ≤ 140737488355328) := hide (bndL hl (by have := endS_len sp dg; omega))
      clear hf2 hf3 hf0
      go_wp2_with fail
      refine CE.out.mono ?_
      rintro e w4 ⟨rfl, h4, b4, o4⟩
      have OB4 := hide (o4.blk OB3.out hGD hGS)
      obtain ⟨sv4, q4, q5⟩ := h4.out
      have H4 := hide q4
      have hG4 : some G ≠ sv4.ownBlock := fun e => by
        rcases q5 G e.symm with e1 | e1
        · exact hGS e1.symm
        · have := OB3.out.lt; omega
      have BW4 := hide (BW3.out.trans b4)
      clear h4 b4 o4 q4 q5 CE r3 r4 r5 r6 r7 H3 PB3 OB3 BW3
      obtain ⟨i0, hi, hz0, hz1, hz2⟩ := info_parts infoSp
      obtain ⟨so, sc, hso⟩ := ownF_slice H4.out.spn
      obtain ⟨k, hk⟩ : ∃ k, k = (endS sp dg).length := ⟨_, rfl⟩
      rw [← hk] at hso
      obtain ⟨xs, hxs⟩ : ∃ xs, xs = cellsS (endS sp dg) := ⟨_, rfl⟩
      have HX : Hid (k + 1 = ((endS sp dg) ++ [(⟨f, (n : Int), z⟩ : Sp)]).length ∧ xs ++ [.int .i64 f, .int .i64 (n : Int), .int .i64 z] = cellsS ((endS sp dg) ++ [⟨f, (n : Int), z⟩])) := hide ⟨by rw [hk]; simp, by rw [hxs, cellsS_app]; rfl⟩
      have hlk : (k + 1) * 24 ≤ 140737488355328 := by rw [hk]; exact hl4.out
      have hl2 : k + 1 ≤ maxLen := by unfold maxLen; exact Nat.le_trans (bnd0 hlk) (by decide)
      have c2 : w4.cell? ⟨D, 2, none⟩ = some (.slice so k sc) := by rw [← hso]; exact H4.out.blk.cell 2
      have s0 : ScB G 0 ⟨f, (n : Int), z⟩ w4.drew := ⟨OB4.out.cell 0, OB4.out.cell 1, OB4.out.cell 2⟩
      have HBX := H4.out.below (show Below w4.heap.size w4 w4.drew from (Below.refl _ _).drew)
      rw [hso] at HBX
      have HB := hide HBX
      have OBD : Hid (Blk w4.drew G #[.int .i64 f, .int .i64 (n : Int), .int .i64 z] 31) := hide OB4.out
      have OW : Hid ((w4.drew.alloc (.cells #[.int .i64 f, .int .i64 (n : Int), .int .i64 z] 31)).ownsRow (D + 1) 31 3 (.slice so k sc) k xs) := hide (by rw [hk, hxs]; have q := (HB.out.below ((Below.refl _ _).alloc (Nat.le_refl _) (.cells #[.int .i64 f, .int .i64 (n : Int), .int .i64 z] 31))).spn; rw [hk] at q; exact q)
      have HDX : Hid (D < w4.drew.heap.size) := hide HB.out.blk.lt
      have BASE : Hid (D + 1 ≤ (w4.drew.alloc (.cells #[.int .i64 f, .int .i64 (n : Int), .int .i64 z] 31)).heap.size) := hide (Nat.le_trans HDX.out (((Below.refl w4.drew.heap.size w4.drew).alloc (Nat.le_refl _) _).size))
      have m1 : ¬ w4.heap.size = D := by have := HDX.out; exact fun e => Nat.lt_irrefl D (by rw [← e] at this ⊢; exact this)
      have m2 : ¬ D = w4.heap.size := fun e => m1 e.symm
      have hGO : some G ≠ (Value.slice so k sc).ownBlock := by rw [← hso]; exact hG4
      clear hk hxs hso HBX
      go_wp2_with fail
      refine wp_region_held_drew (S := (ScB G 0 (⟨f, (n : Int), z⟩ : Sp))) (by kernel_rfl) ?_ (fun hHeld => ?_)
      · exact s0
      refine wpAnyH_take (i := 0) (oi := Oper.mk (some 30) _ _ _ _ _) (v := .pointer (some ⟨D, 0, none⟩)) rfl (by kernel_rfl) (by kernel_rfl) (by kernel_rfl) (fun _ _ _ h => h) (Or.inl ⟨by rfl, ?_⟩) (by assumption) ?_
      · intro wX hSw
        (try dsimp only at hSw)
        go_simp
      simp only [Act.put, List.setIfInBounds_toArray, List.set_cons_succ, List.set_cons_zero]
      refine wpAnyH_take (i := 1) (oi := Oper.mk (some 31) _ _ _ _ _) (v := .pointer (some ⟨D, 0, none⟩)) rfl (by kernel_rfl) (by kernel_rfl) (by kernel_rfl) (fun _ _ _ h => h) (Or.inl ⟨by rfl, ?_⟩) (by assumption) ?_
      · intro wX hSw
        (try dsimp only at hSw)
        go_simp
      simp only [Act.put, List.setIfInBounds_toArray, List.set_cons_succ, List.set_cons_zero]
      refine wpAnyH_take (i := 2) (oi := Oper.mk (some 32) _ _ _ _ _) (v := .pointer (some ⟨D, 0, none⟩)) rfl (by kernel_rfl) (by kernel_rfl) (by kernel_rfl) (fun _ _ _ h => h) (Or.inl ⟨by rfl, ?_⟩) (by assumption) ?_
      · intro wX hSw
        (try dsimp only at hSw)
        go_simp
      simp only [Act.put, List.setIfInBounds_toArray, List.set_cons_succ, List.set_cons_zero]
      refine wpAnyH_take (i := 3) (oi := Oper.mk (some 33) _ _ _ _ _) (v := .pointer (some ⟨D, 2, none⟩)) rfl (by kernel_rfl) (by kernel_rfl) (by kernel_rfl) (fun _ _ _ h => h) (Or.inl ⟨by rfl, ?_⟩) (by assumption) ?_
      · intro wX hSw
        (try dsimp only at hSw)
        go_simp
      simp only [Act.put, List.setIfInBounds_toArray, List.set_cons_succ, List.set_cons_zero]
      refine wpAnyH_take (i := 5) (oi := Oper.mk (some 35) _ _ _ _ _) (v := .agg #[.int .i64 f, .int .i64 (n : Int), .int .i64 z]) rfl (by kernel_rfl) (by kernel_rfl) (by kernel_rfl) (fun _ _ _ h => h) (Or.inl ⟨by rfl, ?_⟩) (by assumption) ?_
      · intro wX hSw
        (try dsimp only at hSw)
        obtain ⟨q0, q1, q2⟩ := hSw
        go_simp
      simp only [Act.put, List.setIfInBounds_toArray, List.set_cons_succ, List.set_cons_zero]
      refine wpAnyH_ready (rs := [4, 6]) (by kernel_rfl) (by simp) ?_
      refine AllReadyH.cons (o := Oper.mk (some 34) _ _ _ _ _) rfl (fun K hK => ?_) (AllReadyH.cons (o := Oper.mk (some 36) _ _ _ _ _) rfl (fun K hK => ?_) AllReadyH.nil)
      · go_simp
        refine hK.out _ _ ?_ (fun hHeld => ?_)
        · assumption
        clear hK K
        refine wpAnyH_ready (rs := [6]) (by kernel_rfl) (by simp) ?_
        refine AllReadyH.cons (o := Oper.mk (some 36) _ _ _ _ _) rfl (fun K hK => ?_) AllReadyH.nil
        go_simp
        refine hK.out _ _ ?_ (fun hHeld => ?_)
        · exact (ScB.below s0 ((Below.refl _ _).alloc (Nat.le_refl _) _))
        clear hK K
        refine wpAnyH_ready (rs := [7]) (by kernel_rfl) (by simp) ?_
        refine AllReadyH.cons (o := Oper.mk (some 37) _ _ _ _ _) rfl (fun K hK => ?_) AllReadyH.nil
        refine step_append_lies _ (by rfl) _ _ _ (by rfl) (D + 1) 31 i0 (.agg #[.int .i64 0, .int .i64 0, .int .i64 0]) 3 24 Tryd.underlying23 hi hz0 hz1 hz2 rfl (by decide) (.slice so k sc) k xs (by rfl) OW.out ⟨w4.drew.heap.size, 0, none⟩ 1 1 [.int .i64 f, .int .i64 (n : Int), .int .i64 z] (by rfl) rfl (news_sp (⟨f, (n : Int), z⟩ : Sp) _) (one_sp (⟨f, (n : Int), z⟩ : Sp)) (by decide) hl2 hlk BASE.out _ rfl ?_
        intro g cp w4x hown hgr hat hlt
        obtain ⟨GX, GO, GL, GF⟩ := HB.out.grown (s := (⟨f, (n : Int), z⟩ : Sp)) hgr
        have y2 := GX.cell 2
        have y3 := GX.free 2
        have GX2 := hide GX
        have GO2 := hide GO
        have GL2 := hide GL
        have GF2 := hide GF
        have HO2 := hide hown
        have HAT := hide hat
        have OG : Blk w4x G #[.int .i64 f, .int .i64 (n : Int), .int .i64 z] 31 := GF.blk OBD.out hGD hGO
        have y5 : w4x.cell? ⟨G, 0, none⟩ = some (.int .i64 f) := OG.cell 0
        have y6 : w4x.cell? ⟨G, 1, none⟩ = some (.int .i64 (n : Int)) := OG.cell 1
        have y7 : w4x.cell? ⟨G, 2, none⟩ = some (.int .i64 z) := OG.cell 2
        have hDG : ¬ D = G := fun e => hGD e.symm
        clear hgr hat hlt GX GO GL GF hown
        refine hK.out _ _ ?_ (fun hHeld => ?_)
        · exact ⟨y5, y6, y7⟩
        clear hK K
        refine wpAnyH_take (i := 8) (oi := Oper.mk (some 38) _ _ _ _ _) (v := .pointer (some ⟨D, 0, none⟩)) rfl (by kernel_rfl) (by kernel_rfl) (by kernel_rfl) (fun _ _ _ h => h) (Or.inl ⟨by rfl, ?_⟩) (by assumption) ?_
        · intro wX hSw
          (try dsimp only at hSw)
          go_simp
        simp only [Act.put, List.setIfInBounds_toArray, List.set_cons_succ, List.set_cons_zero]
        refine wpAnyH_take (i := 9) (oi := Oper.mk (some 39) _ _ _ _ _) (v := .pointer (some ⟨D, 2, none⟩)) rfl (by kernel_rfl) (by kernel_rfl) (by kernel_rfl) (fun _ _ _ h => h) (Or.inl ⟨by rfl, ?_⟩) (by assumption) ?_
        · intro wX hSw
          (try dsimp only at hSw)
          go_simp
        simp only [Act.put, List.setIfInBounds_toArray, List.set_cons_succ, List.set_cons_zero]
        refine wpAnyH_ready (rs := [10]) (by kernel_rfl) (by simp) ?_
        refine AllReadyH.cons (o := Oper.mk none _ _ _ _ _) rfl (fun K hK => ?_) AllReadyH.nil
        go_simp
        refine hK.out _ _ ?_ (fun hHeld => ?_)
        · exact ⟨by simp [go_sem, y5], by simp [go_sem, y6], by simp [go_sem, y7]⟩
        clear hK K
        refine wpAnyH_done (by kernel_rfl) ?_ _
        clear hHeld
        go_wp2
        go_end0
        have BK := GX2.out.setN 2 (.slice (some ⟨g, 0, none⟩) (k + 1) cp)
        refine ⟨rfl, hide ⟨⟨p3, v3, .slice (some ⟨g, 0, none⟩) (k + 1) cp, ?_⟩, ((BW4.out.drew.trans GL2.out).setCell (p := ⟨D, 2, none⟩) (Nat.le_refl _) _)⟩⟩
        rw [ES.out.1, ES.out.2]
        refine ⟨BK, HB.out.ptr, ownF_set GO2.out (Nat.lt_succ_self D), HB.out.nil, ?_⟩
        unfold OwnS
        rw [← HX.out.1, ← HX.out.2]
        exact ownF_set HO2.out (Nat.lt_succ_self D)
      · go_simp
        refine hK.out _ _ ?_ (fun hHeld => ?_)
        · exact (ScB.below s0 ((Below.refl _ _).alloc (Nat.le_refl _) _))
        clear hK K
        refine wpAnyH_ready (rs := [4]) (by kernel_rfl) (by simp) ?_
        refine AllReadyH.cons (o := Oper.mk (some 34) _ _ _ _ _) rfl (fun K hK => ?_) AllReadyH.nil
        have c2a : (w4.alloc (.cells #[.int .i64 f, .int .i64 (n : Int), .int .i64 z] 31)).cell? ⟨D, 2, none⟩ = some (.slice so k sc) := (((Below.refl w4.drew.heap.size w4.drew).alloc (Nat.le_refl _) _).cell (p := ⟨D, 2, none⟩) HDX.out).trans c2
        go_simp
        refine hK.out _ _ ?_ (fun hHeld => ?_)
        · assumption
        clear hK K
        refine wpAnyH_ready (rs := [7]) (by kernel_rfl) (by simp) ?_
        refine AllReadyH.cons (o := Oper.mk (some 37) _ _ _ _ _) rfl (fun K hK => ?_) AllReadyH.nil
        refine step_append_lies _ (by rfl) _ _ _ (by rfl) (D + 1) 31 i0 (.agg #[.int .i64 0, .int .i64 0, .int .i64 0]) 3 24 Tryd.underlying23 hi hz0 hz1 hz2 rfl (by decide) (.slice so k sc) k xs (by rfl) OW.out ⟨w4.drew.heap.size, 0, none⟩ 1 1 [.int .i64 f, .int .i64 (n : Int), .int .i64 z] (by rfl) rfl (news_sp (⟨f, (n : Int), z⟩ : Sp) _) (one_sp (⟨f, (n : Int), z⟩ : Sp)) (by decide) hl2 hlk BASE.out _ rfl ?_
        intro g cp w4x hown hgr hat hlt
        obtain ⟨GX, GO, GL, GF⟩ := HB.out.grown (s := (⟨f, (n : Int), z⟩ : Sp)) hgr
        have y2 := GX.cell 2
        have y3 := GX.free 2
        have GX2 := hide GX
        have GO2 := hide GO
        have GL2 := hide GL
        have GF2 := hide GF
        have HO2 := hide hown
        have HAT := hide hat
        have OG : Blk w4x G #[.int .i64 f, .int .i64 (n : Int), .int .i64 z] 31 := GF.blk OBD.out hGD hGO
        have y5 : w4x.cell? ⟨G, 0, none⟩ = some (.int .i64 f) := OG.cell 0
        have y6 : w4x.cell? ⟨G, 1, none⟩ = some (.int .i64 (n : Int)) := OG.cell 1
        have y7 : w4x.cell? ⟨G, 2, none⟩ = some (.int .i64 z) := OG.cell 2
        have hDG : ¬ D = G := fun e => hGD e.symm
        clear hgr hat hlt GX GO GL GF hown
        refine hK.out _ _ ?_ (fun hHeld => ?_)
        · exact ⟨y5, y6, y7⟩
        clear hK K
        refine wpAnyH_take (i := 8) (oi := Oper.mk (some 38) _ _ _ _ _) (v := .pointer (some ⟨D, 0, none⟩)) rfl (by kernel_rfl) (by kernel_rfl) (by kernel_rfl) (fun _ _ _ h => h) (Or.inl ⟨by rfl, ?_⟩) (by assumption) ?_
        · intro wX hSw
          (try dsimp only at hSw)
          go_simp
        simp only [Act.put, List.setIfInBounds_toArray, List.set_cons_succ, List.set_cons_zero]
        refine wpAnyH_take (i := 9) (oi := Oper.mk (some 39) _ _ _ _ _) (v := .pointer (some ⟨D, 2, none⟩)) rfl (by kernel_rfl) (by kernel_rfl) (by kernel_rfl) (fun _ _ _ h => h) (Or.inl ⟨by rfl, ?_⟩) (by assumption) ?_
        · intro wX hSw
          (try dsimp only at hSw)
          go_simp
        simp only [Act.put, List.setIfInBounds_toArray, List.set_cons_succ, List.set_cons_zero]
        refine wpAnyH_ready (rs := [10]) (by kernel_rfl) (by simp) ?_
        refine AllReadyH.cons (o := Oper.mk none _ _ _ _ _) rfl (fun K hK => ?_) AllReadyH.nil
        go_simp
        refine hK.out _ _ ?_ (fun hHeld => ?_)
        · exact ⟨by simp [go_sem, y5], by simp [go_sem, y6], by simp [go_sem, y7]⟩
        clear hK K
        refine wpAnyH_done (by kernel_rfl) ?_ _
        clear hHeld
        go_wp2
        go_end0
        have BK := GX2.out.setN 2 (.slice (some ⟨g, 0, none⟩) (k + 1) cp)
        refine ⟨rfl, hide ⟨⟨p3, v3, .slice (some ⟨g, 0, none⟩) (k + 1) cp, ?_⟩, ((BW4.out.drew.trans GL2.out).setCell (p := ⟨D, 2, none⟩) (Nat.le_refl _) _)⟩⟩
        rw [ES.out.1, ES.out.2]
        refine ⟨BK, HB.out.ptr, ownF_set GO2.out (Nat.lt_succ_self D), HB.out.nil, ?_⟩
        unfold OwnS
        rw [← HX.out.1, ← HX.out.2]
        exact ownF_set HO2.out (Nat.lt_succ_self D)
end Go.Proofs.YtkgapklhgkngnaaDoor

namespace Go.Proofs.YtkgapklhgkngnaaDoor
open Go.RowKit

attribute [local go_sem ↓] Go.wp_at_zero Go.wp_at_succ

def unfB (p : Pe) : Bool := !knB p.f || !Lib.validD (bys p.t)
set_option maxRecDepth 100000 in
set_option maxHeartbeats 2000000 in
theorem unfit_any (p : Pe) (w : World) (hT : U8 w) (hp : p.t.size ≤ 9223372036854775807) :
    Calls Tryd.prog 23 #[.agg #[.string p.t, .int .i64 p.f]] w fun e w' => e = .returned (.bool (unfB p)) ∧ Below w.heap.size w w' := by
  obtain ⟨t, f⟩ := p
  simp only [] at hp ⊢
  obtain ⟨r, hr⟩ : ∃ r, r = unfB ⟨t, f⟩ := ⟨_, rfl⟩
  rw [← hr]
  unfold unfB at hr
  simp only [] at hr
  obtain ⟨W1, hW1⟩ : ∃ W1, W1 = w.alloc (.cells #[.string t, .int .i64 f] 50) := ⟨_, rfl⟩
  have B1 := hide (show Below w.heap.size w W1 by rw [hW1]; exact (Below.refl _ _).alloc (Nat.le_refl _) _)
  have PB : Hid (Blk W1 w.heap.size #[.string t, .int .i64 f] 50) := hide (by rw [hW1]; exact Blk.newAt w _ rfl _ _)
  have q0 : W1.cell? ⟨w.heap.size, 0, none⟩ = some (.string t) := PB.out.cell 0
  have q1 : W1.cell? ⟨w.heap.size, 1, none⟩ = some (.int .i64 f) := PB.out.cell 1
  have HW := hide hW1.symm
  have CV := hide (Valid_any t W1 hp (hT.below B1.out))
  clear hW1 hT hp
  rcases Bool.eq_false_or_eq_true (knB f) with k1 | k1
  rotate_left 1
  · have e : r = true := by rw [hr, k1]; rfl
    subst e
    clear hr CV
    go_enter Tryd.func23, Tryd.ntmps23
    go_wp2_with (first | simp only [HW.out] | (go_at_call 33; refine (known_any _ _).mono ?_; rintro e w' ⟨rfl, rfl⟩))
    go_ret
    exact ⟨rfl, B1.out⟩
  · generalize Lib.validD (bys t) = vb at hr CV
    have e : r = !vb := by rw [hr, k1]; rfl
    subst e
    clear hr
    have KN : Hid (∀ X, Calls Tryd.prog 33 #[.int .i64 f] X fun e w' => e = .returned (.bool true) ∧ w' = X) := hide (fun X => by have q := known_any f X; rw [k1] at q; exact q)
    clear k1
    go_enter Tryd.func23, Tryd.ntmps23
    go_wp2_with (simp only [HW.out])
    refine (KN.out _).mono ?_
    rintro e w2 ⟨rfl, hw2⟩
    subst hw2
    go_wp2_with fail
    refine CV.out.mono ?_
    rintro e w2 ⟨rfl, hb2⟩
    have B2 := hide (B1.out.trans (hb2.mono B1.out.size))
    clear hb2 CV
    go_wp2
    go_ret
    exact ⟨rfl, B2.out⟩

def PeA (w : World) (b o : Nat) (l : List Pe) : Prop := ∀ i, i < l.length → w.cell? ⟨b, o + i * 2, none⟩ = some (.string (gN peZ l i).t) ∧ w.cell? ⟨b, o + i * 2 + 1, none⟩ = some (.int .i64 (gN peZ l i).f)
inductive PeV (w : World) (v : Value) (l : List Pe) : Prop where
  | none (ao : Option Addr) (cap : Nat) (hv : v = .slice ao 0 cap) (hl : l = []) : PeV w v l
  | some (b o cap : Nat) (hv : v = .slice (some ⟨b, o, none⟩) l.length cap) (hc : l.length ≤ cap) (hb : b < w.heap.size) (ha : PeA w b o l) : PeV w v l
theorem PeA.below {w w' : World} {b o : Nat} {l : List Pe} (h : PeA w b o l) (hb : b < w.heap.size) (hw : Below w.heap.size w w') : PeA w' b o l := fun i hi => by
  obtain ⟨h0, h1⟩ := h i hi
  exact ⟨(hw.cell (p := ⟨b, o + i * 2, none⟩) hb).trans h0, (hw.cell (p := ⟨b, o + i * 2 + 1, none⟩) hb).trans h1⟩
theorem PeV.below {w w' : World} {v : Value} {l : List Pe} (h : PeV w v l) (hw : Below w.heap.size w w') : PeV w' v l := by
  cases h with
  | none ao cap hv hl => exact .none ao cap hv hl
  | some b o cap hv hc hb ha => exact .some b o cap hv hc (Nat.lt_of_lt_of_le hb hw.size) (ha.below hb hw)
theorem PeV.len {w : World} {v : Value} {l : List Pe} (h : PeV w v l) : ∃ ao cap, v = .slice ao l.length cap := by
  cases h with
  | none ao cap hv hl => subst hl; exact ⟨ao, cap, hv⟩
  | some b o cap hv _ _ _ => exact ⟨_, cap, hv⟩

def firU : List Pe → Nat → Int
  | [], _ => -1
  | p :: l, k => if unfB p then (k : Int) else firU l (k + 1)
theorem firU_any : ∀ (l : List Pe) (k : Nat), decide (0 ≤ firU l k) = l.any unfB
  | [], _ => rfl
  | s :: l, k => by
    rw [firU, List.any_cons]
    cases unfB s
    · rw [if_neg (by simp), firU_any l (k + 1)]; rfl
    · rw [if_pos rfl, Bool.true_or]; exact decide_eq_true (by omega)
def SmP (l : List Pe) : Prop := ∀ p ∈ l, p.t.size ≤ 140737488355328

set_option maxRecDepth 100000 in
set_option maxHeartbeats 4000000 in
theorem idxU_any (v : Value) (l : List Pe) (w : World) (hT : U8 w) (hv : PeV w v l) (hl : l.length ≤ 140737488355328) (hs : SmP l) :
    Calls Tryd.prog 43 #[v, .func (.func 23) #[] #[]] w fun e w' => e = .returned (.int .i64 (firU l 0)) ∧ Below w.heap.size w w' := by
  have HV := hide hv
  obtain ⟨ao, cap, rfl⟩ := hv.len
  obtain ⟨n, hn⟩ : ∃ n, n = l.length := ⟨_, rfl⟩
  obtain ⟨R, hR⟩ : ∃ R, R = firU l 0 := ⟨_, rfl⟩
  rw [← hn] at hl ⊢
  rw [← hR]
  have HN := hide hn
  have HR := hide hR
  have HT := hide hT
  have HS := hide hs
  clear hn hR hv hT hs
  go_enter Tryd.func43, Tryd.ntmps43
  go_wp2
  go_loopw [8] (fun x wr => ∃ i : Nat, i ≤ n ∧ x = .int .i64 (i : Int) ∧ Hid (firU (l.drop i) i = R) ∧ Hid (Below w.heap.size w wr)) (fun x _ => n - (intOf x).toNat)
  case atStart => exact ⟨0, Nat.zero_le _, rfl, hide HR.out.symm, Below.refl _ _⟩
  case round =>
    obtain ⟨i, hi, rfl, HF, BB⟩ := hrel
    by_cases hlt : i < n
    · have hlt' : (i : Int) < (n : Int) := by omega
      have hil : i < l.length := by rw [← HN.out]; exact hlt
      have HV2 := HV.out
      rw [← HN.out] at HV2
      cases HV2 with
      | none _ _ _ h => subst h; simp at hil
      | some b o cp hv hc hb ha =>
        rw [← HN.out] at hv
        simp only [Value.slice.injEq] at hv
        obtain ⟨rfl, _, rfl⟩ := hv
        obtain ⟨c0, c1⟩ := (ha.below hb BB.out) i hil
        have ED : l.drop i = gN peZ l i :: l.drop (i + 1) := by rw [List.drop_eq_getElem_cons hil]; congr 1; unfold gN; rw [List.getElem?_eq_getElem hil]; rfl
        have hsm := HS.out (gN peZ l i) (gN_mem hil)
        have HF2 := HF.out
        rw [ED, firU] at HF2
        generalize gN peZ l i = s at *
        have CM := hide (unfit_any s wr (HT.out.below BB.out) (Nat.le_trans hsm (by decide)))
        generalize unfB s = mb at *
        have HF3 := hide HF2
        clear HF2 ED HF hil ha hb hc hsm
        go_wp2_with fail
        refine CM.out.mono ?_
        rintro e w2 ⟨rfl, hb2⟩
        have B2 := hide (BB.out.trans (hb2.mono BB.out.size))
        clear hb2 CM c0 c1 BB
        cases mb
        · have E1 : Hid (firU (l.drop (i + 1)) (i + 1) = R) := hide (by rw [← HF3.out]; rfl)
          clear HF3
          go_wp2
          exact ⟨⟨i + 1, by omega, by go_num, E1, B2⟩, by simp [intOf]; omega⟩
        · have E1 : (i : Int) = R := by rw [← HF3.out]; rfl
          clear HF3
          subst E1
          go_wp2
          go_ret
          exact ⟨rfl, B2.out⟩
    · obtain rfl : i = n := by omega
      have hlt' : ¬ (i : Int) < (i : Int) := by omega
      have E1 : R = -1 := by rw [← HF.out, List.drop_eq_nil_of_le (by rw [← HN.out]; exact Nat.le_refl _)]; rfl
      clear HF HR hlt
      subst E1
      go_wp2
      go_ret
      exact ⟨rfl, BB.out⟩

set_option maxHeartbeats 2000000 in
theorem contU_any (v : Value) (l : List Pe) (w : World) (hT : U8 w) (hv : PeV w v l) (hl : l.length ≤ 140737488355328) (hs : SmP l) :
    Calls Tryd.prog 22 #[v, .func (.func 23) #[] #[]] w fun e w' => e = .returned (.bool (l.any unfB)) ∧ Below w.heap.size w w' := by
  have CI := hide (idxU_any v l w hT hv hl hs)
  obtain ⟨ao, cap, rfl⟩ := hv.len
  obtain ⟨r, hr⟩ : ∃ r, r = firU l 0 := ⟨_, rfl⟩
  have e1 : l.any unfB = decide (0 ≤ r) := by rw [hr, firU_any]
  rw [e1]
  rw [← hr] at CI
  clear hr e1 hv hT hs
  go_enter Tryd.func22, Tryd.ntmps22
  go_wp2_with fail
  refine CI.out.mono ?_
  rintro e w2 ⟨rfl, hb2⟩
  have B2 := hide hb2
  clear hb2 CI
  go_wp2
  go_ret
  exact ⟨rfl, B2.out⟩
end Go.Proofs.YtkgapklhgkngnaaDoor

namespace Go.Proofs.YtkgapklhgkngnaaDoor
open Go.RowKit

attribute [local go_sem ↓] Go.wp_at_zero Go.wp_at_succ

structure OdR (D : Nat) (l : List Sp) (wr : World) (x : Value) (k : Nat) : Prop where
  ex : ∃ (out q : List Rk) (v : Value) (uo : Option Addr) (uc : Nat), x = .slice uo out.length uc ∧ out.length = k ∧ OwnS (D + 1) wr x (out.map Rk.s) ∧ QV wr D v q ∧ (out ++ q).Perm (rkL 0 l) ∧ SrtR out ∧ HeapN LtR rkZ q q.length ∧ ∀ a ∈ out, ∀ b ∈ q, LtR a b

set_option maxRecDepth 100000 in
set_option maxHeartbeats 16000000 in
theorem ordered_any {w : World} {B : Nat} {v : Value} (l : List Sp) (h : OwnS B w v l) (hl : (l.length + 1) * 32 ≤ 140737488355328) :
    Calls Tryd.prog 27 #[v] w fun e w' => Hid (∃ uo uc, e = .returned (.slice uo l.length uc) ∧ OwnS w.heap.size w' (.slice uo l.length uc) (ordS l)) ∧ Below w.heap.size w w' := by
  obtain ⟨ao, cap, rfl⟩ := ownF_slice h
  obtain ⟨n, hn⟩ : ∃ n, n = l.length := ⟨_, rfl⟩
  have HN := hide hn
  have HO := hide h
  rw [← hn] at hl ⊢
  obtain ⟨W, hW⟩ : ∃ W, W = w.alloc (.cells #[.slice none 0 0] 88) := ⟨_, rfl⟩
  have Q0 : Hid (QV W w.heap.size (.slice none 0 0) []) := hide ⟨by rw [hW]; exact Blk.newAt w _ rfl _ _, rfl, .inl ⟨rfl, rfl⟩⟩
  have B0 : Hid (Below w.heap.size w W) := hide (by rw [hW]; exact (Below.refl _ _).alloc (Nat.le_refl _) _)
  have HW := hide hW.symm
  clear hW hn h
  go_enter Tryd.func27, Tryd.ntmps27
  go_wp2_with (simp only [HW.out])
  go_loopw [9] (fun x wr => ∃ i : Nat, i ≤ n ∧ x = .int .i64 (i : Int) ∧ Hid (∃ v q, QV wr w.heap.size v q ∧ q.Perm (rkL 0 (l.take i)) ∧ HeapN LtR rkZ q q.length) ∧ Hid (Below w.heap.size w wr)) (fun x _ => n - (intOf x).toNat)
  case atStart => exact ⟨0, Nat.zero_le _, rfl, hide ⟨_, [], Q0.out, List.Perm.refl _, fun i h0 h1 => absurd h1 (Nat.not_lt_zero _)⟩, B0⟩
  case round =>
    obtain ⟨i, hi, rfl, HQ, BB⟩ := hrel
    clear Q0 B0 HW
    by_cases hlt : i < n
    · have hlt' : (i : Int) < (n : Int) := by omega
      obtain ⟨g, cp, hv, _, hgw, _⟩ := ownF_some HO.out (by rw [← HN.out]; omega)
      simp only [Value.slice.injEq] at hv
      obtain ⟨rfl, _, rfl⟩ := hv
      have hil : i < l.length := by rw [← HN.out]; exact hlt
      obtain ⟨a0, a1, a2⟩ := HO.out.at i hil
      have K : ∀ o v, w.cell? ⟨g, o, none⟩ = some v → wr.cell? ⟨g, o, none⟩ = some v := fun o v h => (BB.out.cell (p := ⟨g, o, none⟩) hgw).trans h
      have c0 := K _ _ a0
      have c1 := K _ _ a1
      have c2 := K _ _ a2
      have hgr : g < wr.heap.size := Nat.lt_of_lt_of_le hgw BB.out.size
      have n1 : ¬ wr.heap.size = g := by omega
      have n2 : ¬ g = wr.heap.size := by omega
      obtain ⟨s, hs⟩ : ∃ s, s = gN spZ l i := ⟨_, rfl⟩
      rw [← hs] at c0 c1 c2
      have TK : Hid (l.take (i + 1) = l.take i ++ [s]) := hide (by rw [List.take_succ_eq_append_getElem hil, hs]; unfold gN; rw [List.getElem?_eq_getElem hil]; rfl)
      have LE : Hid ((l.take i).length = i) := hide (by rw [List.length_take]; omega)
      obtain ⟨v, q, hqv, hqp, hqh⟩ := HQ.out
      have hql : q.length = i := by rw [hqp.length_eq, rkL_len]; exact LE.out
      have AB := hide (show Below wr.heap.size wr (wr.alloc (.cells #[.int .i64 s.f, .int .i64 s.a, .int .i64 s.b] 31)) from (Below.refl _ _).alloc (Nat.le_refl _) _)
      have CP : Hid (Calls Tryd.prog 47 #[.iface 90 (.pointer (some ⟨w.heap.size, 0, none⟩)), .iface 92 (.agg #[.int .i64 s.f, .int .i64 s.a, .int .i64 s.b, .int .i64 (i : Int)])] (wr.alloc (.cells #[.int .i64 s.f, .int .i64 s.a, .int .i64 s.b] 31)) fun e w' => e = .returned (.tuple #[]) ∧ Hid (∃ v' q', QV w' w.heap.size v' q' ∧ q'.Perm (q ++ [⟨s, (i : Int)⟩]) ∧ HeapN LtR rkZ q' q'.length) ∧ Below w.heap.size (wr.alloc (.cells #[.int .i64 s.f, .int .i64 s.a, .int .i64 s.b] 31)) w') := hide (hpush_any q ⟨s, (i : Int)⟩ (hqv.below AB.out) hqh (by rw [hql]; omega))
      have QP := hide hqp
      clear hs a0 a1 a2 K hil HO hqv hqh hqp hql HQ
      go_wp2_with fail
      refine CP.out.mono ?_
      rintro e w2 ⟨rfl, hq2, hb2⟩
      have HQ2 : Hid (∃ v q, QV w2 w.heap.size v q ∧ q.Perm (rkL 0 (l.take (i + 1))) ∧ HeapN LtR rkZ q q.length) := hide (by
        obtain ⟨v', q', p1, p2, p3⟩ := hq2.out
        refine ⟨v', q', p1, ?_, p3⟩
        rw [TK.out, rkL_snoc, LE.out, Nat.zero_add]
        exact p2.trans (QP.out.append_right _))
      have HB2 := hide ((BB.out.trans (AB.out.mono BB.out.size)).trans hb2)
      clear hq2 hb2 CP QP AB TK LE BB c0 c1 c2
      go_wp2
      exact ⟨⟨i + 1, by omega, by go_num, HQ2, HB2⟩, by simp [intOf]; omega⟩
    · obtain rfl : i = n := by omega
      have hlt' : ¬ (i : Int) < (i : Int) := by omega
      obtain ⟨i0, ti, tz0, tz1, tz2⟩ := info_parts infoSp
      have BS := BB.out.size
      have hDw : w.heap.size < wr.heap.size := by obtain ⟨v, q, hq, _, _⟩ := HQ.out; exact hq.1.lt
      obtain ⟨w5, hr5, own5, gr5⟩ := run_make_own (P := Tryd.prog) wr (w.heap.size + 1) 23 31 i0 _ 3 Tryd.underlying23 ti tz0 tz1 .i64 .i64 i (by rw [tz2]; omega) (by unfold maxLen; omega) (by omega)
      have TL : l.take i = l := by rw [HN.out]; exact List.take_length
      have R0 : OdR w.heap.size l w5 (.slice (some ⟨wr.heap.size, 0, none⟩) 0 i) 0 := by
        obtain ⟨v, q, hq, hp, hh⟩ := HQ.out
        rw [TL] at hp
        exact ⟨[], q, v, _, _, rfl, rfl, own5, hq.below ((Below.refl _ _).grown gr5 (Nat.le_refl _) (fun k h => by simp at h)), hp, List.Pairwise.nil, hh, fun a h => absurd h (by simp)⟩
      have B5 : Hid (Below w.heap.size w w5) := hide (BB.out.grown gr5 BS (fun q h => by simp at h))
      have r0 := hide R0
      clear hlt R0 HQ BB own5 gr5 TL BS ti tz0 tz1 tz2
      go_wp2_with fail
      clear hr5
      go_loopw [6] (fun x wr => ∃ k, k ≤ i ∧ slLen x = k ∧ Hid (OdR w.heap.size l wr x k) ∧ Hid (Below w.heap.size w wr)) (fun x _ => i - slLen x)
      case atStart => exact ⟨0, Nat.zero_le _, rfl, r0, B5⟩
      case round =>
        obtain ⟨k, hk, hsl, HR, BR⟩ := hrel
        obtain ⟨out, q, v, uo, uc, rfl, hol, ho, hq, hp, hs, hh, ha⟩ := HR.out.ex
        have hqm : k + q.length = i := by
          have e1 := hp.length_eq
          rw [List.length_append, rkL_len, hol] at e1
          rw [HN.out]; exact e1
        by_cases hz : q.length = 0
        · obtain rfl := List.eq_nil_of_length_eq_zero hz
          have ev : ∃ o c, v = .slice o 0 c := ownF_slice hq.2
          obtain ⟨vo, vc, rfl⟩ := ev
          have c0 := hq.1.cell 0
          rw [List.append_nil] at hp
          have EO := ord_of hp hs
          have hki : k = i := by rw [← hqm, hz, Nat.add_zero]
          have E1 : Hid (∃ uo' uc', (Ending.returned (.slice uo out.length uc)) = .returned (.slice uo' i uc') ∧ OwnS w.heap.size wr (.slice uo' i uc') (ordS l)) := hide ⟨uo, uc, by rw [hol, hki], by rw [← EO]; have h2 : OwnS w.heap.size wr (.slice uo out.length uc) (out.map Rk.s) := World.ownsRow.mono ho (Nat.le_succ _); rw [hol, hki] at h2; exact h2⟩
          clear hq hp hs hh ha ho HR EO hol hqm hki hz
          go_wp2_with (go_at_call 48; refine (qlen_any _ _ _ _).mono ?_; rintro e wr ⟨rfl, rfl⟩)
          go_ret
          exact ⟨E1, BR.out⟩
        · obtain ⟨m, hm⟩ : ∃ m, q.length = m + 1 := ⟨q.length - 1, by omega⟩
          rw [hm] at hh
          obtain ⟨hqb, hqo⟩ := hq
          rw [hm] at hqo
          obtain ⟨g, cp, rfl, hg1, hg2, hg3⟩ := ownF_some hqo (by omega)
          have c0 := hqb.cell 0
          have QX : QG wr w.heap.size g cp (m + 1) q wr := ⟨hqb, hqo, hm, Below.refl _ _, OthF.refl _ _ _⟩
          have CP := hide (hpop_any q QX hh (by omega))
          obtain ⟨x, hx⟩ : ∃ x, x = gN rkZ q 0 := ⟨_, rfl⟩
          rw [← hx] at CP
          have TA := assertRk x.s.f x.s.a x.s.b x.r
          have TF := fieldRk x.s.f x.s.a x.s.b x.r
          have QO := hide hqo
          have ST := hide (fun q' h1 => pop_srt (q' := q') (n := m + 1) hm.symm hh hx.symm hp hs ha h1)
          have OA := hide (fun g (hg : (Value.slice uo out.length uc).ownBlock = some g) => own_apartF ho hqo (by decide) g hg)
          have HO2 := hide ho
          obtain ⟨M, hM⟩ : ∃ M, M = m + 1 := ⟨_, rfl⟩
          have hM0 : (0 : Int) < (M : Int) := by omega
          rw [← hM] at c0
          have hx2 : rkV x = .agg #[.int .i64 x.s.f, .int .i64 x.s.a, .int .i64 x.s.b, .int .i64 x.r] := rfl
          rw [hx2] at CP
          obtain ⟨kk, hkk⟩ : ∃ kk, kk = out.length := ⟨_, rfl⟩
          rw [← hkk] at HO2 OA
          rw [← hkk]
          have HK := hide hkk
          have HOL := hide hol
          have HMM := hide hM
          have HQM := hide hqm
          have HMQ := hide hm
          clear hp hs hh ha ho HR QX hqb hqo hz hx hx2 hg1 hg2 hg3 hM hkk hol hqm hm
          go_wp2_with (first | (go_at_call 48; refine (qlen_any _ _ _ _).mono ?_; rintro e wr ⟨rfl, rfl⟩))
          refine CP.out.mono ?_
          rintro e w2 ⟨rfl, hq2⟩
          obtain ⟨q', p1, p2, p3⟩ := hq2.out
          obtain ⟨s1, s2, s3⟩ := ST.out q' p2
          have LM : (out.map Rk.s).length = kk := by rw [List.length_map]; exact HK.out.symm
          have AB : Below w2.heap.size w2 (w2.alloc (.cells #[.int .i64 x.s.f, .int .i64 x.s.a, .int .i64 x.s.b] 31)) := (Below.refl _ _).alloc (Nat.le_refl _) _
          have O2 : OwnS (w.heap.size + 1) w2 (.slice uo kk uc) (out.map Rk.s) := own_othF HO2.out p1.oth (Nat.lt_succ_self _) (fun g' hg' e1 => by
            have := OA.out g' hg'
            simp only [Option.some.injEq] at e1
            subst e1
            exact this rfl)
          have O3 : Hid (OwnS (w.heap.size + 1) (w2.alloc (.cells #[.int .i64 x.s.f, .int .i64 x.s.a, .int .i64 x.s.b] 31)) (.slice uo kk uc) (out.map Rk.s)) := hide (ownF_below O2 AB)
          have Q3 : Hid (QV (w2.alloc (.cells #[.int .i64 x.s.f, .int .i64 x.s.a, .int .i64 x.s.b] 31)) w.heap.size (.slice (some ⟨g, 0, none⟩) m cp) q') := hide (QV.below ⟨p1.blk, by rw [p1.len]; exact p1.own⟩ AB)
          have TB : Hid (Blk (w2.alloc (.cells #[.int .i64 x.s.f, .int .i64 x.s.a, .int .i64 x.s.b] 31)) w2.heap.size #[.int .i64 x.s.f, .int .i64 x.s.a, .int .i64 x.s.b] 31) := hide (Blk.newAt w2 _ rfl _ _)
          have BR3 := hide ((BR.out.trans p1.bel).trans (AB.mono (by have := p1.blk.lt; omega)))
          have BASE : Hid (w.heap.size + 1 ≤ (w2.alloc (.cells #[.int .i64 x.s.f, .int .i64 x.s.a, .int .i64 x.s.b] 31)).heap.size) := hide (by have := AB.size; have := p1.blk.lt; omega)
          have HLN := hide p1.len
          have LK : Hid ((kk + 1) * 24 ≤ 140737488355328) := hide (by have := HQM.out; have := HMQ.out; have := HOL.out; have := HK.out; omega)
          have P3 := hide p3
          have S1 := hide s1
          have S2 := hide s2
          have S3 := hide s3
          have LM2 := hide LM
          clear hq2 p1 p2 p3 s1 s2 s3 AB O2 CP ST OA HO2 LM BR QO
          go_wp2_with (at_builtin; refine wpSp_appendN rfl _ _ rfl (w.heap.size + 1) (.slice uo kk uc) (out.map Rk.s) kk LM2.out rfl O3.out w2.heap.size x.s rfl TB.out LK.out BASE.out ?_; intro uo2 uc2 w4 hown hgr)
          have E4 : Hid (OdR w.heap.size l w4 (.slice uo2 (kk + 1) uc2) (k + 1)) := hide ⟨out ++ [x], q', _, uo2, uc2, by rw [List.length_append, List.length_singleton, HK.out], by rw [List.length_append, List.length_singleton, HOL.out], by rw [List.map_append]; exact hown, Q3.out.grown O3.out (Nat.lt_succ_self _) (by decide) hgr, S1.out, S2.out, by rw [HLN.out]; exact P3.out, S3.out⟩
          have B4 := hide (BR3.out.grown hgr (Nat.le_of_succ_le BASE.out) (fun b hb => Nat.le_of_succ_le (World.ownsRow.lt O3.out b hb).1))
          have ek : kk = k := by rw [HK.out, HOL.out]
          clear hown hgr O3 Q3 TB BR3 BASE P3 S1 S2 S3 HLN
          exact ⟨⟨k + 1, by have := HQM.out; have := HMQ.out; omega, by rw [← ek]; rfl, E4, B4⟩, by show i - (kk + 1) < i - kk; have := HQM.out; have := HMQ.out; omega⟩
end Go.Proofs.YtkgapklhgkngnaaDoor

namespace Go.Proofs.YtkgapklhgkngnaaDoor
open Go.RowKit

attribute [local go_sem ↓] Go.wp_at_zero Go.wp_at_succ

def bldF : List Pe → List UInt8 → List Sp → Sp → List UInt8 × List Sp
  | [], bs, sp, dg => (bs, endS sp dg)
  | p :: l, bs, sp, dg => if p.t.size = 0 then bldF l bs sp dg else bldF l (bs ++ bys p.t) (pieS p.f ⟨p.f, (bs.length : Int), (bs.length : Int) + p.t.size⟩ sp dg) (pieG p.f ⟨p.f, (bs.length : Int), (bs.length : Int) + p.t.size⟩ dg)
def bldP (l : List Pe) : List UInt8 × List Sp := bldF l [] [] spN
def sumP : List Pe → Nat
  | [] => 0
  | p :: l => p.t.size + sumP l
theorem pieS_len (f : Int) (own : Sp) (sp : List Sp) (dg : Sp) : (pieS f own sp dg).length ≤ sp.length + 2 := by
  have := endS_len sp dg
  unfold pieS
  split
  · omega
  · split
    · rw [List.length_append, List.length_singleton]; omega
    · split
      · omega
      · rw [List.length_append, List.length_singleton]; omega

theorem tlF_ne {s : ByteArray} (h : s.size ≠ 0) : ¬ s.toList = [] := fun e => h (by rw [sl] at e; rw [← bys_len, e]; rfl)
theorem tlF_ie {s : ByteArray} (h : s.size ≠ 0) : s.toList.isEmpty = false := by
  cases e : s.toList with
  | nil => exact absurd e (tlF_ne h)
  | cons a t => rfl
theorem tlF_nb {s : ByteArray} (h : s.size ≠ 0) : (s.toList == []) = false := by
  cases e : s.toList with
  | nil => exact absurd e (tlF_ne h)
  | cons a t => rfl
theorem emptyF {s : ByteArray} (h : s.size = 0) : s = ⟨#[]⟩ := by
  cases s with
  | mk d => congr; exact Array.eq_empty_of_size_eq_zero h

theorem results_out {fn : Func} {a c : Tmp} (h : fn.results = #[.cell a 25, .tmp c]) (tmps : Array Value) (H : Nat) (x0 x1 : Value) (w : World) (ht : tmps.getD a undef = .pointer (some ⟨H, 0, none⟩)) (hp : Blk w H #[x0, x1] 25) :
    (results fn tmps).run Tryd.prog w = .ok (.tuple #[.agg #[x0, x1], tmps.getD c undef]) w := by
  have c0 := hp.cell 0
  have c1 := hp.cell 1
  simp at c0 c1
  rw [Array.getD_eq_getD_getElem?] at ht
  simp [results, h, ht, go_sem, c0, c1]

theorem ownF_mono {w : World} {B B' n k : Nat} {e : TypeId} {v : Value} {xs : List Value} (h : w.ownsRow B e k v n xs) (hb : B' ≤ B) : w.ownsRow B' e k v n xs := by
  refine ⟨h.1, ?_⟩
  rcases h.2 with h2 | ⟨g, cap, cur, hv, h3, h4⟩
  · exact .inl h2
  · exact .inr ⟨g, cap, cur, hv, Nat.le_trans hb h3, h4⟩

set_option maxRecDepth 100000 in
set_option maxHeartbeats 4000000 in
theorem Build_no (v : Value) (l : List Pe) (w : World) (hT : U8 w) (hv : PeV w v l) (hl : l.length ≤ 140737488355328) (hs : SmP l) (hm : l.any unfB = true) :
    Calls Tryd.prog 8 #[v] w fun e w' => e = .returned (.tuple #[.agg #[.string ⟨#[]⟩, .slice none 0 0], .int .i64 170]) ∧ Below w.heap.size w w' := by
  obtain ⟨W1, hW1⟩ : ∃ W1, W1 = w.alloc (.cells #[.string ⟨#[]⟩, .slice none 0 0] 25) := ⟨_, rfl⟩
  have B1 := hide (show Below w.heap.size w W1 by rw [hW1]; exact (Below.refl _ _).alloc (Nat.le_refl _) _)
  have RB : Hid (Blk W1 w.heap.size #[.string ⟨#[]⟩, .slice none 0 0] 25) := hide (by rw [hW1]; exact Blk.newAt w _ rfl _ _)
  have HW := hide hW1.symm
  have CC := hide (contU_any v l W1 (hT.below B1.out) (hv.below B1.out) hl hs)
  rw [hm] at CC
  obtain ⟨ao, cap, rfl⟩ := hv.len
  obtain ⟨n, hn⟩ : ∃ n, n = l.length := ⟨_, rfl⟩
  rw [← hn] at CC ⊢
  clear hW1 hT hv hl hs hm hn
  go_enter Tryd.func8, Tryd.ntmps8
  go_wp2_with (simp only [HW.out])
  refine CC.out.mono ?_
  rintro e w2 ⟨rfl, hb2⟩
  have B2 := hide (B1.out.trans (hb2.mono B1.out.size))
  have R2 := hide (RB.out.below hb2 RB.out.lt)
  have c0 : w2.cell? ⟨w.heap.size, 0, none⟩ = some (.string ⟨#[]⟩) := R2.out.cell 0
  have c1 : w2.cell? ⟨w.heap.size, 1, none⟩ = some (.slice none 0 0) := R2.out.cell 1
  have f0 := R2.out.free 0
  have f1 := R2.out.free 1
  clear hb2 CC RB B1 HW
  go_wp2
  have BK := (R2.out.setN 0 (.string ⟨#[]⟩)).setN 1 (.slice none 0 0)
  exact bodyPost_ret (results_out rfl _ _ _ _ _ rfl BK) rfl ⟨rfl, (B2.out.setCell (p := ⟨w.heap.size, 0, none⟩) (Nat.le_refl _) _).setCell (p := ⟨w.heap.size, 1, none⟩) (Nat.le_refl _) _⟩

structure BuR (D : Nat) (l : List Pe) (R : List UInt8 × List Sp) (W wr : World) (i : Nat) : Prop where
  ex : ∃ (bs : List UInt8) (sp : List Sp) (dg : Sp) (p v sv : Value), BgV wr D bs sp dg p v sv ∧ bldF (l.drop i) bs sp dg = R ∧ bs.length + sumP (l.drop i) ≤ 140737488355328 ∧ sp.length ≤ 2 * i ∧ Below D W wr

theorem bnd6 {x n i C : Nat} (h : (2 * n + 4) * 32 ≤ C) (hx : x ≤ 2 * i) (hi : i ≤ n) : (x + 2) * 24 ≤ C := Nat.le_trans (Nat.mul_le_mul (by omega) (by decide)) h
theorem bnd7 {x n C : Nat} (h : (2 * n + 4) * 32 ≤ C) (hx : x ≤ 2 * n + 1) : (x + 1) * 32 ≤ C := Nat.le_trans (Nat.mul_le_mul_right 32 (by omega)) h
theorem bnd8 {n C : Nat} (h : (2 * n + 4) * 32 ≤ C) : n ≤ C := Nat.le_trans (Nat.le_trans (by omega) (Nat.le_mul_of_pos_right (2 * n + 4) (by decide))) h

set_option maxRecDepth 100000 in
set_option maxHeartbeats 16000000 in
theorem Build_yes (v : Value) (l : List Pe) (w : World) (hT : U8 w) (hv : PeV w v l) (hl : (2 * l.length + 4) * 32 ≤ 140737488355328) (hs : SmP l) (hsum : sumP l ≤ 140737488355328) (hm : l.any unfB = false) :
    Calls Tryd.prog 8 #[v] w fun e w' => Hid (∃ uo uc, e = .returned (.tuple #[.agg #[.string ⟨(bldP l).1.toArray⟩, .slice uo (bldP l).2.length uc], .int .i64 0]) ∧ OwnS w.heap.size w' (.slice uo (bldP l).2.length uc) (ordS (bldP l).2)) ∧ Below w.heap.size w w' := by
  obtain ⟨W1, hW1⟩ : ∃ W1, W1 = w.alloc (.cells #[.string ⟨#[]⟩, .slice none 0 0] 25) := ⟨_, rfl⟩
  have B1 := hide (show Below w.heap.size w W1 by rw [hW1]; exact (Below.refl _ _).alloc (Nat.le_refl _) _)
  have RB : Hid (Blk W1 w.heap.size #[.string ⟨#[]⟩, .slice none 0 0] 25) := hide (by rw [hW1]; exact Blk.newAt w _ rfl _ _)
  have HW := hide hW1.symm
  have CC := hide (contU_any v l W1 (hT.below B1.out) (hv.below B1.out) (bnd8 hl) hs)
  rw [hm] at CC
  have HV := hide hv
  obtain ⟨ao, cap, hv2⟩ := hv.len
  subst hv2
  obtain ⟨n, hn⟩ : ∃ n, n = l.length := ⟨_, rfl⟩
  obtain ⟨R, hR⟩ : ∃ R, R = bldP l := ⟨_, rfl⟩
  rw [← hR]
  rw [← hn] at CC hl HV ⊢
  have HN := hide hn
  have HR := hide hR
  have HL := hide hl
  have HSU := hide hsum
  have hnb : n ≤ 140737488355328 := bnd8 hl
  clear hW1 hT hv hl hs hm hn hR hsum
  go_enter Tryd.func8, Tryd.ntmps8
  go_wp2_with (simp only [HW.out])
  refine CC.out.mono ?_
  rintro e w2 ⟨rfl, hb2⟩
  have B2 := hide (B1.out.trans (hb2.mono B1.out.size))
  have R2 := hide (RB.out.below hb2 RB.out.lt)
  obtain ⟨W3, hW3⟩ : ∃ W3, W3 = w2.alloc (.cells #[.pointer none, .slice none 0 0, .slice none 0 0, .int .i64 0, .int .i64 0, .int .i64 0] 60) := ⟨_, rfl⟩
  have B3 := hide (show Below w2.heap.size w2 W3 by rw [hW3]; exact (Below.refl _ _).alloc (Nat.le_refl _) _)
  obtain ⟨D, hD⟩ : ∃ D, D = w2.heap.size := ⟨_, rfl⟩
  have L0 : Hid (BuR D l R W3 W3 0) := hide ⟨[], [], spN, _, _, _, ⟨by rw [hW3]; exact Blk.newAt w2 D hD.symm _ _, .inl rfl, ⟨rfl, .inl ⟨rfl, rfl⟩⟩, fun _ => rfl, ⟨rfl, .inl ⟨rfl, rfl⟩⟩⟩, by rw [List.drop_zero, HR.out]; rfl, by rw [List.drop_zero]; simpa using HSU.out, Nat.zero_le _, Below.refl _ _⟩
  have R3 := hide (R2.out.below B3.out R2.out.lt)
  have BB3 := hide (B2.out.trans (B3.out.mono B2.out.size))
  have HW3 := hide hW3.symm
  have HDs := hide hD.symm
  have hwD : w.heap.size < D := by rw [hD]; exact R2.out.lt
  clear hb2 CC RB B1 HW hW3 hD
  go_wp2_with (simp only [HW3.out])
  simp only [HDs.out]
  clear HW3 HDs R2 B2 B3
  go_loopw [12] (fun x wr => ∃ i : Nat, i ≤ n ∧ x = .int .i64 (i : Int) ∧ Hid (BuR D l R W3 wr i)) (fun x _ => n - (intOf x).toNat)
  case atStart => exact ⟨0, Nat.zero_le _, rfl, L0⟩
  case round =>
    obtain ⟨i, hi, rfl, HR2⟩ := hrel
    clear L0
    obtain ⟨bs, sp, dg, p, pv, sv, hbg, hfd, hsz, hln, hbel⟩ := HR2.out.ex
    have BB : Hid (Below w.heap.size w wr) := hide (BB3.out.trans (hbel.mono (Nat.le_of_lt hwD)))
    have hDr : D < wr.heap.size := hbg.blk.lt
    by_cases hlt : i < n
    · have hlt' : (i : Int) < (n : Int) := by omega
      have hil : i < l.length := by rw [← HN.out]; exact hlt
      have HV2 := HV.out
      rw [HN.out] at HV2
      cases HV2 with
      | none _ _ _ h => subst h; simp at hil
      | some b o cp hv hc hb ha =>
        simp only [Value.slice.injEq] at hv
        obtain ⟨rfl, _, rfl⟩ := hv
        obtain ⟨c0, c1⟩ := (ha.below hb BB.out) i hil
        have ED : l.drop i = gN peZ l i :: l.drop (i + 1) := by rw [List.drop_eq_getElem_cons hil]; congr 1; unfold gN; rw [List.getElem?_eq_getElem hil]; rfl
        rw [ED] at hfd hsz
        rw [bldF] at hfd
        rw [sumP] at hsz
        generalize gN peZ l i = s at *
        obtain ⟨t, f⟩ := s
        simp only [] at c0 c1 hfd hsz
        have hbw : b < wr.heap.size := Nat.lt_of_lt_of_le hb BB.out.size
        have n1 : ¬ wr.heap.size = b := by omega
        have n2 : ¬ b = wr.heap.size := by omega
        obtain ⟨W4, hW4⟩ : ∃ W4, W4 = wr.alloc (.cells #[.string t, .int .i64 f] 50) := ⟨_, rfl⟩
        have B4 := hide (show Below wr.heap.size wr W4 by rw [hW4]; exact (Below.refl _ _).alloc (Nat.le_refl _) _)
        have SB : Hid (Blk W4 wr.heap.size #[.string t, .int .i64 f] 50) := hide (by rw [hW4]; exact Blk.newAt wr _ rfl _ _)
        have k0 : W4.cell? ⟨wr.heap.size, 0, none⟩ = some (.string t) := SB.out.cell 0
        have k1 : W4.cell? ⟨wr.heap.size, 1, none⟩ = some (.int .i64 f) := SB.out.cell 1
        have HW4 := hide hW4.symm
        have H4 := hide (hbg.below B4.out)
        have HB4 := hide (hbel.trans (B4.out.mono (Nat.le_of_lt hDr)))
        have HSZ := hide hsz
        have HLN := hide hln
        have HFD := hide hfd
        clear hW4 ha hb hc ED hil HR2 hbg hfd hsz hln hbel SB
        by_cases ht : t.size = 0
        · have E4 : Hid (BuR D l R W3 W4 (i + 1)) := hide ⟨bs, sp, dg, p, pv, sv, H4.out, by rw [← HFD.out, if_pos ht], by have := HSZ.out; omega, by have := HLN.out; omega, HB4.out⟩
          obtain rfl : t = ⟨#[]⟩ := emptyF ht
          clear HFD HSZ HLN H4 HB4 ht
          go_wp2_with (simp only [HW4.out])
          exact ⟨⟨i + 1, by omega, by go_num, E4⟩, by simp [intOf]; omega⟩
        · have i1 := tlF_ne ht
          have i2 := tlF_ie ht
          have i3 := tlF_nb ht
          have CP := hide (put_any t f H4.out ht (by have := HSZ.out; omega) (bnd6 HL.out HLN.out hi))
          have HT := hide ht
          clear ht
          go_wp2_with (simp only [HW4.out])
          refine CP.out.mono ?_
          rintro e w5 ⟨rfl, hpr⟩
          have E5 : Hid (BuR D l R W3 w5 (i + 1)) := hide (by
            obtain ⟨p5, v5, sv5, h5⟩ := hpr.out.ex
            exact ⟨_, _, _, p5, v5, sv5, h5, by rw [← HFD.out, if_neg HT.out], by rw [List.length_append, bys_len]; have := HSZ.out; omega, by have := HLN.out; have := pieS_len f ⟨f, (bs.length : Int), (bs.length : Int) + t.size⟩ sp dg; omega, HB4.out.trans hpr.out.bel⟩)
          clear hpr CP HFD HSZ HLN H4 HB4 k0 k1 c0 c1 i1 i2 i3
          go_wp2
          exact ⟨⟨i + 1, by omega, by go_num, E5⟩, by simp [intOf]; omega⟩
    · obtain rfl : i = n := by omega
      have hlt' : ¬ (i : Int) < (i : Int) := by omega
      have ED : l.drop i = [] := List.drop_eq_nil_of_le (by rw [← HN.out]; exact Nat.le_refl _)
      rw [ED] at hfd
      rw [bldF] at hfd
      have CE := hide (endD_any hbg (bndL (bnd6 HL.out hln (Nat.le_refl _)) (Nat.le_succ _)))
      have HFD := hide hfd
      have HLN := hide hln
      have HB := hide hbel
      clear hbg hfd hsz hln hbel ED HR2 hlt
      go_wp2_with fail
      refine CE.out.mono ?_
      rintro e w5 ⟨rfl, q1, q2, q3⟩
      obtain ⟨sv5, h5, _⟩ := q1.out
      have H5 := hide h5
      have HB5 := hide (HB.out.trans q2)
      have R5 := hide (R3.out.below (HB5.out) (by exact hwD))
      have s5 : w5.cell? ⟨D, 2, none⟩ = some sv5 := h5.blk.cell 2
      have CS := hide (bstr_any (h5.below (Below.refl _ _).drew))
      have OL : Hid (((endS sp dg).length + 1) * 32 ≤ 140737488355328) := hide (bnd7 HL.out (by have := endS_len sp dg; have := HLN.out; omega))
      clear h5 q1 q2 q3 CE HB
      go_wp2_with fail
      refine wp_region_held_drew (S := fun X => X.cell? ⟨D, 2, none⟩ = some sv5) (by kernel_rfl) ?_ (fun hHeld => ?_)
      · exact s5
      refine wpAnyH_take (i := 0) (oi := Oper.mk (some 23) _ _ _ _ _) (v := .pointer (some ⟨D, 0, none⟩)) rfl (by kernel_rfl) (by kernel_rfl) (by kernel_rfl) (fun _ _ _ h => h) (Or.inl ⟨by rfl, ?_⟩) (by assumption) ?_
      · intro wX hSw
        (try dsimp only at hSw)
        go_simp
      simp only [Act.put, List.setIfInBounds_toArray, List.set_cons_succ, List.set_cons_zero]
      refine wpAnyH_take (i := 2) (oi := Oper.mk (some 25) _ _ _ _ _) (v := .pointer (some ⟨D, 2, none⟩)) rfl (by kernel_rfl) (by kernel_rfl) (by kernel_rfl) (fun _ _ _ h => h) (Or.inl ⟨by rfl, ?_⟩) (by assumption) ?_
      · intro wX hSw
        (try dsimp only at hSw)
        go_simp
      simp only [Act.put, List.setIfInBounds_toArray, List.set_cons_succ, List.set_cons_zero]
      refine wpAnyH_take (i := 3) (oi := Oper.mk (some 26) _ _ _ _ _) (v := sv5) rfl (by kernel_rfl) (by kernel_rfl) (by kernel_rfl) (fun _ _ _ h => h) (Or.inl ⟨by rfl, ?_⟩) (by assumption) ?_
      · intro wX hSw
        (try dsimp only at hSw)
        go_simp
      simp only [Act.put, List.setIfInBounds_toArray, List.set_cons_succ, List.set_cons_zero]
      refine wpAnyH_ready (rs := [1]) (by kernel_rfl) (by simp) ?_
      refine AllReadyH.cons (o := Oper.mk (some 24) _ _ _ _ _) rfl (fun K hK => ?_) AllReadyH.nil
      go_simp
      refine CS.out.mono ?_
      rintro e w6 ⟨rfl, k6, g6⟩
      have H5d := H5.out.below (Below.refl _ _).drew
      have hb6 : Blk w6 D #[p, pv, sv5, .int .i64 spN.f, .int .i64 spN.a, .int .i64 spN.b] 60 := by have q := H5d.blk; unfold Blk at *; rw [g6]; exact q
      have s6 : w6.cell? ⟨D, 2, none⟩ = some sv5 := hb6.cell 2
      have HOW := hide (ordered_any _ (k6.own (show OwnS (D + 1) w5.drew sv5 (endS sp dg) from H5d.spn) (Nat.lt_succ_self D) (by decide)) OL.out)
      have R6 := hide (k6.blk (show Blk w5.drew w.heap.size _ _ from R5.out) (by omega) (by decide))
      have HB6 := hide (HB5.out.drew.trans k6.bel)
      have HB6K := hide hb6
      clear k6 g6 H5d hb6
      refine hK.out _ _ ?_ (fun hHeld => ?_)
      · exact s6
      clear hK K
      refine wpAnyH_ready (rs := [4]) (by kernel_rfl) (by simp) ?_
      refine AllReadyH.cons (o := Oper.mk (some 27) _ _ _ _ _) rfl (fun K hK => ?_) AllReadyH.nil
      go_simp
      refine HOW.out.mono ?_
      rintro e w7 ⟨HE, hb7⟩
      obtain ⟨uo, uc, rfl, ho7⟩ := HE.out
      have HO7 := hide ho7
      have HB7 := hide (HB6.out.trans (hb7.mono (Nat.le_of_lt HB6K.out.lt)))
      have R7 := hide (R6.out.below hb7 R6.out.lt)
      have s7 : w7.cell? ⟨D, 2, none⟩ = some sv5 := (HB6K.out.below hb7 HB6K.out.lt).cell 2
      clear HE ho7 hb7 HOW
      refine hK.out _ _ ?_ (fun hHeld => ?_)
      · exact s7
      clear hK K
      refine wpAnyH_take (i := 5) (oi := Oper.mk (some 28) _ _ _ _ _) (v := .agg #[.string ⟨bs.toArray⟩, .slice uo (endS sp dg).length uc]) rfl (by kernel_rfl) (by kernel_rfl) (by kernel_rfl) (fun _ _ _ h => h) (Or.inl ⟨by rfl, ?_⟩) (by assumption) ?_
      · intro wX hSw
        (try dsimp only at hSw)
        go_simp
      simp only [Act.put, List.setIfInBounds_toArray, List.set_cons_succ, List.set_cons_zero]
      have r0 : w7.cell? ⟨w.heap.size, 0, none⟩ = some (.string ⟨#[]⟩) := R7.out.cell 0
      have r1 : w7.cell? ⟨w.heap.size, 1, none⟩ = some (.slice none 0 0) := R7.out.cell 1
      have f0 := R7.out.free 0
      have f1 := R7.out.free 1
      have hne : ¬ w.heap.size = D := by omega
      have hne2 : ¬ D = w.heap.size := by omega
      clear hHeld
      refine wpAnyH_ready (rs := [6]) (by kernel_rfl) (by simp) ?_
      refine AllReadyH.cons (o := Oper.mk none _ _ _ _ _) rfl (fun K hK => ?_) AllReadyH.nil
      go_simp
      refine hK.out _ _ ?_ (fun hHeld => ?_)
      · go_simp
      clear hK K
      refine wpAnyH_take (i := 7) (oi := Oper.mk (some 3) _ _ _ _ _) (v := .int .i64 0) rfl (by kernel_rfl) (by kernel_rfl) (by kernel_rfl) (fun _ _ _ h => h) (Or.inl ⟨by rfl, ?_⟩) (by assumption) ?_
      · intro wX hSw
        (try dsimp only at hSw)
        go_simp
      simp only [Act.put, List.setIfInBounds_toArray, List.set_cons_succ, List.set_cons_zero]
      refine wpAnyH_done (by kernel_rfl) ?_ _
      clear hHeld
      go_wp2_with fail
      have BK := (R7.out.setN 0 (.string ⟨bs.toArray⟩)).setN 1 (.slice uo (endS sp dg).length uc)
      have EQ := HFD.out
      rw [← EQ]
      have hw6 : w.heap.size < w6.heap.size := R6.out.lt
      exact bodyPost_ret (results_out rfl _ _ _ _ _ rfl BK) rfl ⟨hide ⟨uo, uc, rfl, ownF_mono (ownF_set (ownF_set HO7.out hw6) hw6) (Nat.le_of_lt hw6)⟩, ((BB3.out.trans (HB7.out.mono (Nat.le_of_lt hwD))).setCell (p := ⟨w.heap.size, 0, none⟩) (Nat.le_refl _) _).setCell (p := ⟨w.heap.size, 1, none⟩) (Nat.le_refl _) _⟩
end Go.Proofs.YtkgapklhgkngnaaDoor
