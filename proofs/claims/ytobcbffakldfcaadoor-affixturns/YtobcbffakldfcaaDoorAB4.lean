/-
  What affix's Check answers.
  What affix's Turn and Has answer.
  Worlds that are as they were, but for one block and for new ones.
  What affix's Turn answers: a list of its own.
  What affix's gathering keeps: keep and add.
  What affix's gathering keeps where a token is kept already.
  Tokens that are gathered: those that are kept tell as much as all of them.
-/
import Derived.Test.YtobcbffakldfcaaDoorAB2
import Derived.Deep.RegionHeld3
import Derived.Deep.Upon
import Derived.Test.YtobcbffakldfcaaDoorAB3
import Derived.Laws.OwnMore
import Derived.Deep.RegionLaw
import Derived.Deep.AppendLies
namespace Go.Proofs.YtobcbffakldfcaaDoor
open Go.RowKit

def prevT (ts : List Tok) (k : Nat) : Option Tok := if k = 0 then none else some (tokN ts (k - 1))
theorem badT_drop (ts : List Tok) (k : Nat) (h : k < ts.length) : badT (prevT ts k) (ts.drop k) = ((!mayTok (tokN ts k) || joinO (prevT ts k) (tokN ts k)) || badT (prevT ts (k + 1)) (ts.drop (k + 1))) := by
  rw [tokN_drop h]
  have : prevT ts (k + 1) = some (tokN ts k) := by unfold prevT; rw [if_neg (by omega)]; rfl
  rw [this]
  rfl
theorem sizeT_take (ts : List Tok) (k : Nat) (h : k < ts.length) : sizeT (ts.take (k + 1)) = sizeT (ts.take k) + (tokN ts k).text.size := by
  have e : tokN ts k = ts[k] := tokN_get (List.getElem?_eq_getElem h)
  unfold sizeT
  rw [List.take_add_one, List.getElem?_eq_getElem h, e, List.map_append, List.sum_append]
  simp
theorem sizeT_bound (ts : List Tok) (hz : SzT ts) : ∀ k, k ≤ ts.length → sizeT (ts.take k) ≤ k * 140737488355328
  | 0, _ => by simp [sizeT]
  | k + 1, h => by
    rw [sizeT_take ts k h]
    have := sizeT_bound ts hz k (by omega)
    have := hz k
    omega

set_option maxRecDepth 100000 in
set_option maxHeartbeats 4000000 in
theorem Check_at (b o cap : Nat) (ts : List Tok) (w : World) (hl : ts.length ≤ 140737488355328) (hc : ts.length ≤ cap) (hz : SzT ts) (hT : U8 w) (h3 : TkAt w b o ts) :
    Calls Tryd.prog 13 #[.slice (some ⟨b, o, none⟩) ts.length cap] w fun e w' => e = .returned (.int .i64 (chkT ts : Int)) ∧ Below w.heap.size w w' := by
  have H3 := hide h3
  have HT := hide hT
  have HZ := hide hz
  clear h3 hT hz
  obtain ⟨L, hL⟩ : ∃ L, L = ts.length := ⟨_, rfl⟩
  rw [← hL] at hl hc ⊢
  have HL := hide hL
  clear hL
  obtain ⟨R, hR⟩ : ∃ R, R = badT none ts := ⟨_, rfl⟩
  have HR := hide hR
  obtain ⟨C, hC⟩ : ∃ C, C = chkT ts := ⟨_, rfl⟩
  rw [← hC]
  have HC : Hid (C = if R then 131 else if longT ts then 132 else 0) := hide (by rw [hC, hR]; rfl)
  clear hR hC
  go_enter Tryd.func13, Tryd.ntmps13
  go_wp2
  go_loopw [3, 8] (fun x q wr => ∃ (k : Nat) (z : Int), k ≤ L ∧ x = .int .i64 z ∧ (k ≤ 64 → z = (sizeT (ts.take k) : Nat)) ∧ q = .int .i64 (k : Int) ∧ Hid (badT (prevT ts k) (ts.drop k) = R) ∧ Hid (Below w.heap.size w wr)) (fun _ q _ => L - (intOf q).toNat)
  case atStart => exact ⟨0, 0, Nat.zero_le _, rfl, fun _ => by simp [sizeT], rfl, hide (by rw [HR.out, List.drop_zero]; rfl), Below.refl _ _⟩
  case round =>
    obtain ⟨k, z, hk, rfl, hzk, rfl, HF, HW⟩ := hrel
    by_cases hlt : k < L
    · have hlt' : (k : Int) < (L : Int) := by omega
      have hkt : k < ts.length := by rw [← HL.out]; exact hlt
      have HA := hide (H3.out.below HW.out)
      obtain ⟨c0, c1, c2⟩ := HA.out k hkt
      have e1 := badT_drop ts k hkt
      rw [HF.out] at e1
      have hzg := HZ.out k
      have HS : Hid (k ≤ 64 → z + ((tokN ts k).text.size : Int) = (sizeT (ts.take (k + 1)) : Nat) ∧ 0 ≤ z ∧ z ≤ 64 * 140737488355328) := hide (fun h => by
        have h1 := hzk h
        have h2 := sizeT_bound ts HZ.out k (by omega)
        rw [sizeT_take ts k hkt]
        omega)
      have HP : Hid (∀ j, k = j + 1 → TkAt wr b o ts ∧ j < ts.length ∧ prevT ts k = some (tokN ts j)) := hide (fun j hj => ⟨HA.out, by omega, by subst hj; unfold prevT; rw [if_neg (by omega)]; rfl⟩)
      obtain ⟨g, hg⟩ : ∃ g, g = tokN ts k := ⟨_, rfl⟩
      rw [← hg] at c0 c1 c2 e1 hzg HS
      obtain ⟨WA, hWA⟩ : ∃ WA, WA = wr.alloc (.cells #[.int .i64 g.kind, .int .i64 g.many, .string g.text] 32) := ⟨_, rfl⟩
      have BA : Hid (Below wr.heap.size wr WA) := hide (by rw [hWA]; exact (Below.refl _ _).alloc (Nat.le_refl _) _)
      have Q := hide (Blk.newAt wr wr.heap.size rfl #[.int .i64 g.kind, .int .i64 g.many, .string g.text] 32)
      rw [← hWA] at Q
      have HWA := hide hWA.symm
      have TA := hide ((HT.out.below HW.out).below BA.out)
      have W0 := hide (HW.out.trans (BA.out.mono HW.out.size))
      have E1 := hide e1
      have q0 := Q.out.cell 0
      have q1 := Q.out.cell 1
      have q2 := Q.out.cell 2
      have hzg' : g.text.size ≤ 9223372036854775807 := by omega
      have b0 : Hid (Below WA.heap.size WA WA.drew) := (Below.refl _ _).drew
      clear hg hWA HF HW e1 HA hkt hzk
      by_cases hm : mayTok g = true
      · rcases Nat.eq_zero_or_pos k with hk0 | hk0
        · have hk0' : ¬ (0 : Int) < (k : Int) := by omega
          have E2 : Hid (badT (prevT ts (k + 1)) (ts.drop (k + 1)) = R) := hide (by rw [E1.out, hm, show prevT ts k = none from by unfold prevT; rw [if_pos hk0]]; rfl)
          have C0 : Hid (∀ X, Hid (Below WA.heap.size WA X) → Calls Tryd.prog 26 #[.agg #[.int .i64 g.kind, .int .i64 g.many, .string g.text]] X fun x w' => x = .returned (.bool true) ∧ Hid (Below WA.heap.size WA w') ∧ w'.cell? ⟨wr.heap.size, 0, none⟩ = some (.int .i64 g.kind) ∧ w'.cell? ⟨wr.heap.size, 1, none⟩ = some (.int .i64 g.many) ∧ w'.cell? ⟨wr.heap.size, 2, none⟩ = some (.string g.text)) := hide (fun X hX => (may_any g X hzg' (TA.out.below hX.out)).mono fun x w' ⟨h1, h2⟩ => by
            have hb := hX.out.trans (h2.mono hX.out.size)
            have Q' := Q.out.below hb Q.out.lt
            rw [hm] at h1
            exact ⟨h1, hb, Q'.cell 0, Q'.cell 1, Q'.cell 2⟩)
          obtain ⟨a1, a2, a3⟩ := HS.out (by omega)
          have A1 := hide a1
          have HK0 := hide hk0
          clear hm E1 HP HZ HS a1 hk0
          go_wp2_with (simp only [HWA.out])
          have mk0 : True := trivial
          refine wp_region_held_drew (S := (fun w' => w'.cell? ⟨wr.heap.size, 0, none⟩ = some (.int .i64 g.kind) ∧ w'.cell? ⟨wr.heap.size, 1, none⟩ = some (.int .i64 g.many) ∧ w'.cell? ⟨wr.heap.size, 2, none⟩ = some (.string g.text))) (by kernel_rfl) ?_ (fun hHeld => ?_)
          · (try dsimp only)
            go_keep
          refine wpAnyH_take (i := 0) (oi := Oper.mk (some 13) _ _ _ _ _) (v := .agg #[.int .i64 g.kind, .int .i64 g.many, .string g.text]) rfl (by kernel_rfl) (by kernel_rfl) (by kernel_rfl) (fun _ _ _ h => h) (Or.inl ⟨by rfl, ?_⟩) (by assumption) ?_
          · intro wX hSw
            (try dsimp only at hSw)
            go_simp
          simp only [Act.put, List.setIfInBounds_toArray, List.set_cons_succ, List.set_cons_zero]
          refine wpAnyH_ready (rs := [1]) (by kernel_rfl) (by simp) ?_
          refine AllReadyH.cons (o := Oper.mk (some 14) _ _ _ _ _) rfl (fun K hK => ?_) AllReadyH.nil
          go_simp
          go_at_call 26
          refine (C0.out _ b0).mono ?_
          rintro x z1 ⟨rfl, P1, t0, t1, t2⟩
          refine hK.out _ _ ?_ (fun hHeld => ?_)
          · (try dsimp only)
            go_keep
          clear hK K
          refine wpAnyH_take (i := 2) (oi := Oper.mk (some 15) _ _ _ _ _) (v := .bool false) rfl (by kernel_rfl) (by kernel_rfl) (by kernel_rfl) (fun _ _ _ h => h) (Or.inl ⟨by rfl, ?_⟩) (by assumption) ?_
          · intro wX hSw
            (try dsimp only at hSw)
            go_simp
          simp only [Act.put, List.setIfInBounds_toArray, List.set_cons_succ, List.set_cons_zero]
          refine wpAnyH_take (i := 3) (oi := Oper.mk (some 16) _ _ _ _ _) (v := .bool false) rfl (by kernel_rfl) (by kernel_rfl) (by kernel_rfl) (fun _ _ _ h => h) (Or.inl ⟨by rfl, ?_⟩) (by assumption) ?_
          · intro wX hSw
            (try dsimp only at hSw)
            go_simp
          simp only [Act.put, List.setIfInBounds_toArray, List.set_cons_succ, List.set_cons_zero]
          refine wpAnyH_take (i := 4) (oi := Oper.mk (some 17) _ _ _ _ _) (v := .int .i64 (k : Int)) rfl (by kernel_rfl) (by kernel_rfl) (by kernel_rfl) (fun _ _ _ h => h) (Or.inl ⟨by rfl, ?_⟩) (by assumption) ?_
          · intro wX hSw
            (try dsimp only at hSw)
            go_simp
          simp only [Act.put, List.setIfInBounds_toArray, List.set_cons_succ, List.set_cons_zero]
          refine wpAnyH_take (i := 5) (oi := Oper.mk (some 18) _ _ _ _ _) (v := .bool false) rfl (by kernel_rfl) (by kernel_rfl) (by kernel_rfl) (fun _ _ _ h => h) (Or.inl ⟨by rfl, ?_⟩) (by assumption) ?_
          · intro wX hSw
            (try dsimp only at hSw)
            (go_simp; try exact HK0.out)
          simp only [Act.put, List.setIfInBounds_toArray, List.set_cons_succ, List.set_cons_zero]
          refine wpAnyH_take (i := 6) (oi := Oper.mk (some 19) _ _ _ _ _) (v := .bool false) rfl (by kernel_rfl) (by kernel_rfl) (by kernel_rfl) (fun _ _ _ h => h) (Or.inl ⟨by rfl, ?_⟩) (by assumption) ?_
          · intro wX hSw
            (try dsimp only at hSw)
            go_simp
          simp only [Act.put, List.setIfInBounds_toArray, List.set_cons_succ, List.set_cons_zero]
          refine wpAnyH_take (i := 7) (oi := Oper.mk (some 20) _ _ _ _ _) (v := undef) rfl (by kernel_rfl) (by kernel_rfl) (by kernel_rfl) (fun _ _ _ h => h) (Or.inr ⟨by rfl, rfl⟩) (by assumption) ?_
          simp only [Act.put, List.setIfInBounds_toArray, List.set_cons_succ, List.set_cons_zero]
          refine wpAnyH_take (i := 8) (oi := Oper.mk (some 21) _ _ _ _ _) (v := undef) rfl (by kernel_rfl) (by kernel_rfl) (by kernel_rfl) (fun _ _ _ h => h) (Or.inr ⟨by rfl, rfl⟩) (by assumption) ?_
          simp only [Act.put, List.setIfInBounds_toArray, List.set_cons_succ, List.set_cons_zero]
          refine wpAnyH_take (i := 9) (oi := Oper.mk (some 22) _ _ _ _ _) (v := undef) rfl (by kernel_rfl) (by kernel_rfl) (by kernel_rfl) (fun _ _ _ h => h) (Or.inr ⟨by rfl, rfl⟩) (by assumption) ?_
          simp only [Act.put, List.setIfInBounds_toArray, List.set_cons_succ, List.set_cons_zero]
          refine wpAnyH_take (i := 10) (oi := Oper.mk (some 23) _ _ _ _ _) (v := undef) rfl (by kernel_rfl) (by kernel_rfl) (by kernel_rfl) (fun _ _ _ h => h) (Or.inr ⟨by rfl, rfl⟩) (by assumption) ?_
          simp only [Act.put, List.setIfInBounds_toArray, List.set_cons_succ, List.set_cons_zero]
          refine wpAnyH_take (i := 11) (oi := Oper.mk (some 24) _ _ _ _ _) (v := undef) rfl (by kernel_rfl) (by kernel_rfl) (by kernel_rfl) (fun _ _ _ h => h) (Or.inr ⟨by rfl, rfl⟩) (by assumption) ?_
          simp only [Act.put, List.setIfInBounds_toArray, List.set_cons_succ, List.set_cons_zero]
          refine wpAnyH_take (i := 12) (oi := Oper.mk (some 25) _ _ _ _ _) (v := undef) rfl (by kernel_rfl) (by kernel_rfl) (by kernel_rfl) (fun _ _ _ h => h) (Or.inr ⟨by rfl, rfl⟩) (by assumption) ?_
          simp only [Act.put, List.setIfInBounds_toArray, List.set_cons_succ, List.set_cons_zero]
          refine wpAnyH_take (i := 13) (oi := Oper.mk (some 26) _ _ _ _ _) (v := undef) rfl (by kernel_rfl) (by kernel_rfl) (by kernel_rfl) (fun _ _ _ h => h) (Or.inr ⟨by rfl, rfl⟩) (by assumption) ?_
          simp only [Act.put, List.setIfInBounds_toArray, List.set_cons_succ, List.set_cons_zero]
          refine wpAnyH_take (i := 14) (oi := Oper.mk (some 27) _ _ _ _ _) (v := .bool false) rfl (by kernel_rfl) (by kernel_rfl) (by kernel_rfl) (fun _ _ _ h => h) (Or.inl ⟨by rfl, ?_⟩) (by assumption) ?_
          · intro wX hSw
            (try dsimp only at hSw)
            go_simp
          simp only [Act.put, List.setIfInBounds_toArray, List.set_cons_succ, List.set_cons_zero]
          refine wpAnyH_take (i := 15) (oi := Oper.mk (some 28) _ _ _ _ _) (v := .bool false) rfl (by kernel_rfl) (by kernel_rfl) (by kernel_rfl) (fun _ _ _ h => h) (Or.inl ⟨by rfl, ?_⟩) (by assumption) ?_
          · intro wX hSw
            (try dsimp only at hSw)
            go_simp
          simp only [Act.put, List.setIfInBounds_toArray, List.set_cons_succ, List.set_cons_zero]
          refine wpAnyH_done (by kernel_rfl) ?_ _
          have HN := hide (W0.out.trans (P1.out.mono W0.out.size))
          clear C0 b0 P1 q0 q1 q2
          go_wp2
          exact ⟨⟨k + 1, _, by omega, rfl, fun _ => A1.out, by go_num, E2, HN⟩, by simp [intOf]; omega⟩
        · obtain ⟨j, hkj⟩ : ∃ j, k = j + 1 := ⟨k - 1, by omega⟩
          obtain ⟨hA, hj, hpv⟩ := HP.out j hkj
          obtain ⟨p0', p1', p2'⟩ := hA j hj
          obtain ⟨p, hp⟩ : ∃ p, p = tokN ts j := ⟨_, rfl⟩
          rw [← hp] at p0' p1' p2' hpv
          have p0 := cell_on BA.out p0'
          have p1 := cell_on BA.out p1'
          have p2 := cell_on BA.out p2'
          have KP : Hid (∀ w', Below WA.heap.size WA w' → (w'.cell? ⟨wr.heap.size, 0, none⟩ = some (.int .i64 g.kind) ∧ w'.cell? ⟨wr.heap.size, 1, none⟩ = some (.int .i64 g.many) ∧ w'.cell? ⟨wr.heap.size, 2, none⟩ = some (.string g.text)) ∧ w'.cell? ⟨b, o + j * 3, none⟩ = some (.int .i64 p.kind) ∧ w'.cell? ⟨b, o + j * 3 + 1, none⟩ = some (.int .i64 p.many) ∧ w'.cell? ⟨b, o + j * 3 + 2, none⟩ = some (.string p.text)) := hide (fun w' hb => by
            have Q' := Q.out.below hb Q.out.lt
            exact ⟨⟨Q'.cell 0, Q'.cell 1, Q'.cell 2⟩, cell_on hb p0, cell_on hb p1, cell_on hb p2⟩)
          have C0 : Hid (∀ X, Hid (Below WA.heap.size WA X) → Calls Tryd.prog 26 #[.agg #[.int .i64 g.kind, .int .i64 g.many, .string g.text]] X fun x w' => x = .returned (.bool true) ∧ Hid (Below WA.heap.size WA w') ∧ (w'.cell? ⟨wr.heap.size, 0, none⟩ = some (.int .i64 g.kind) ∧ w'.cell? ⟨wr.heap.size, 1, none⟩ = some (.int .i64 g.many) ∧ w'.cell? ⟨wr.heap.size, 2, none⟩ = some (.string g.text)) ∧ w'.cell? ⟨b, o + j * 3, none⟩ = some (.int .i64 p.kind) ∧ w'.cell? ⟨b, o + j * 3 + 1, none⟩ = some (.int .i64 p.many) ∧ w'.cell? ⟨b, o + j * 3 + 2, none⟩ = some (.string p.text)) := hide (fun X hX => (may_any g X hzg' (TA.out.below hX.out)).mono fun x w' ⟨h1, h2⟩ => by
            have hb := hX.out.trans (h2.mono hX.out.size)
            rw [hm] at h1
            exact ⟨h1, hb, KP.out w' hb⟩)
          have C1 : Hid (∀ X, Hid (Below WA.heap.size WA X) → Calls Tryd.prog 27 #[.agg #[.int .i64 p.kind, .int .i64 p.many, .string p.text], .agg #[.int .i64 g.kind, .int .i64 g.many, .string g.text]] X fun x w' => x = .returned (.bool (joinT p g)) ∧ Hid (Below WA.heap.size WA w') ∧ (w'.cell? ⟨wr.heap.size, 0, none⟩ = some (.int .i64 g.kind) ∧ w'.cell? ⟨wr.heap.size, 1, none⟩ = some (.int .i64 g.many) ∧ w'.cell? ⟨wr.heap.size, 2, none⟩ = some (.string g.text)) ∧ w'.cell? ⟨b, o + j * 3, none⟩ = some (.int .i64 p.kind) ∧ w'.cell? ⟨b, o + j * 3 + 1, none⟩ = some (.int .i64 p.many) ∧ w'.cell? ⟨b, o + j * 3 + 2, none⟩ = some (.string p.text)) := hide (fun X hX => (join_any p g X).mono fun x w' ⟨h1, h2⟩ => by
            have hb := hX.out.trans (h2.mono hX.out.size)
            exact ⟨h1, hb, KP.out w' hb⟩)
          have E2 : Hid (R = (joinT p g || badT (prevT ts (k + 1)) (ts.drop (k + 1)))) := hide (by rw [E1.out, hm, hpv]; rfl)
          have hk0' : (0 : Int) < (k : Int) := by omega
          have hj0 : (0 : Int) ≤ (j : Int) := by omega
          have hjL : (j : Int) < (L : Int) := by omega
          have hwr : IntKind.i64.wrap ((k : Int) - 1) = (j : Int) := by rw [show (k : Int) - 1 = (j : Int) by omega]; exact IntWalk.i64_in _ (by omega)
          generalize joinT p g = J at *
          clear hm E1 HP HZ hA hj hpv hp p0' p1' p2' KP hkj
          go_wp2_with (simp only [HWA.out])
          have mk0 : True := trivial
          go_region_held3 (fun w' => (w'.cell? ⟨wr.heap.size, 0, none⟩ = some (.int .i64 g.kind) ∧ w'.cell? ⟨wr.heap.size, 1, none⟩ = some (.int .i64 g.many) ∧ w'.cell? ⟨wr.heap.size, 2, none⟩ = some (.string g.text)) ∧ w'.cell? ⟨b, o + j * 3, none⟩ = some (.int .i64 p.kind) ∧ w'.cell? ⟨b, o + j * 3 + 1, none⟩ = some (.int .i64 p.many) ∧ w'.cell? ⟨b, o + j * 3 + 2, none⟩ = some (.string p.text)) (go_keep) (first
            | (clear mk0; go_at_call 26; refine (C0.out _ b0).mono ?_; rintro x z1 ⟨rfl, P1, ⟨t0, t1, t2⟩, t3, t4, t5⟩; have mk1 : True := trivial)
            | (clear mk1; go_at_call 27; refine (C1.out _ P1).mono ?_; rintro x z2 ⟨rfl, P2, ⟨t0, t1, t2⟩, t3, t4, t5⟩; have mk2 : True := trivial))
          have HN := hide (W0.out.trans (P2.out.mono W0.out.size))
          clear C0 C1 b0 P1 P2 mk2 q0 q1 q2 p0 p1 p2 hwr
          cases J
          · have E3 : Hid (badT (prevT ts (k + 1)) (ts.drop (k + 1)) = R) := hide (by rw [E2.out]; rfl)
            clear E2
            by_cases h64 : k ≤ 64
            · obtain ⟨a1, a2, a3⟩ := HS.out h64
              have A1 := hide a1
              clear a1 HS
              go_wp2
              exact ⟨⟨k + 1, _, by omega, rfl, fun _ => A1.out, by go_num, E3, HN⟩, by simp [intOf]; omega⟩
            · clear HS
              go_wp2
              exact ⟨⟨k + 1, _, by omega, rfl, fun h => absurd h (by omega), by go_num, E3, HN⟩, by simp [intOf]; omega⟩
          · have E3 : Hid (C = 131) := hide (by rw [HC.out, E2.out]; rfl)
            clear E2 HS
            go_wp2
            go_ret
            exact ⟨by rw [E3.out]; rfl, HN.out⟩
      · have hm' : mayTok g = false := by cases h : mayTok g with | true => exact absurd h hm | false => rfl
        have E2 : Hid (R = true) := hide (by rw [E1.out, hm']; rfl)
        have E3 : Hid (C = 131) := hide (by rw [HC.out, E2.out]; rfl)
        have C0 : Hid (∀ X, Hid (Below WA.heap.size WA X) → Calls Tryd.prog 26 #[.agg #[.int .i64 g.kind, .int .i64 g.many, .string g.text]] X fun x w' => x = .returned (.bool false) ∧ Hid (Below WA.heap.size WA w') ∧ w'.cell? ⟨wr.heap.size, 0, none⟩ = some (.int .i64 g.kind) ∧ w'.cell? ⟨wr.heap.size, 1, none⟩ = some (.int .i64 g.many) ∧ w'.cell? ⟨wr.heap.size, 2, none⟩ = some (.string g.text)) := hide (fun X hX => (may_any g X hzg' (TA.out.below hX.out)).mono fun x w' ⟨h1, h2⟩ => by
          have hb := hX.out.trans (h2.mono hX.out.size)
          have Q' := Q.out.below hb Q.out.lt
          rw [hm'] at h1
          exact ⟨h1, hb, Q'.cell 0, Q'.cell 1, Q'.cell 2⟩)
        clear hm hm' E1 HP HZ HS E2
        go_wp2_with (simp only [HWA.out])
        have mk0 : True := trivial
        refine wp_region_held_drew (S := (fun w' => w'.cell? ⟨wr.heap.size, 0, none⟩ = some (.int .i64 g.kind) ∧ w'.cell? ⟨wr.heap.size, 1, none⟩ = some (.int .i64 g.many) ∧ w'.cell? ⟨wr.heap.size, 2, none⟩ = some (.string g.text))) (by kernel_rfl) ?_ (fun hHeld => ?_)
        · (try dsimp only)
          go_keep
        refine wpAnyH_take (i := 0) (oi := Oper.mk (some 13) _ _ _ _ _) (v := .agg #[.int .i64 g.kind, .int .i64 g.many, .string g.text]) rfl (by kernel_rfl) (by kernel_rfl) (by kernel_rfl) (fun _ _ _ h => h) (Or.inl ⟨by rfl, ?_⟩) (by assumption) ?_
        · intro wX hSw
          (try dsimp only at hSw)
          go_simp
        simp only [Act.put, List.setIfInBounds_toArray, List.set_cons_succ, List.set_cons_zero]
        refine wpAnyH_ready (rs := [1]) (by kernel_rfl) (by simp) ?_
        refine AllReadyH.cons (o := Oper.mk (some 14) _ _ _ _ _) rfl (fun K hK => ?_) AllReadyH.nil
        go_simp
        go_at_call 26
        refine (C0.out _ b0).mono ?_
        rintro x z1 ⟨rfl, P1, t0, t1, t2⟩
        refine hK.out _ _ ?_ (fun hHeld => ?_)
        · (try dsimp only)
          go_keep
        clear hK K
        refine wpAnyH_take (i := 2) (oi := Oper.mk (some 15) _ _ _ _ _) (v := .bool true) rfl (by kernel_rfl) (by kernel_rfl) (by kernel_rfl) (fun _ _ _ h => h) (Or.inl ⟨by rfl, ?_⟩) (by assumption) ?_
        · intro wX hSw
          (try dsimp only at hSw)
          go_simp
        simp only [Act.put, List.setIfInBounds_toArray, List.set_cons_succ, List.set_cons_zero]
        refine wpAnyH_take (i := 3) (oi := Oper.mk (some 16) _ _ _ _ _) (v := .bool true) rfl (by kernel_rfl) (by kernel_rfl) (by kernel_rfl) (fun _ _ _ h => h) (Or.inl ⟨by rfl, ?_⟩) (by assumption) ?_
        · intro wX hSw
          (try dsimp only at hSw)
          go_simp
        simp only [Act.put, List.setIfInBounds_toArray, List.set_cons_succ, List.set_cons_zero]
        refine wpAnyH_take (i := 4) (oi := Oper.mk (some 17) _ _ _ _ _) (v := undef) rfl (by kernel_rfl) (by kernel_rfl) (by kernel_rfl) (fun _ _ _ h => h) (Or.inr ⟨by rfl, rfl⟩) (by assumption) ?_
        simp only [Act.put, List.setIfInBounds_toArray, List.set_cons_succ, List.set_cons_zero]
        refine wpAnyH_take (i := 5) (oi := Oper.mk (some 18) _ _ _ _ _) (v := undef) rfl (by kernel_rfl) (by kernel_rfl) (by kernel_rfl) (fun _ _ _ h => h) (Or.inr ⟨by rfl, rfl⟩) (by assumption) ?_
        simp only [Act.put, List.setIfInBounds_toArray, List.set_cons_succ, List.set_cons_zero]
        refine wpAnyH_take (i := 6) (oi := Oper.mk (some 19) _ _ _ _ _) (v := undef) rfl (by kernel_rfl) (by kernel_rfl) (by kernel_rfl) (fun _ _ _ h => h) (Or.inr ⟨by rfl, rfl⟩) (by assumption) ?_
        simp only [Act.put, List.setIfInBounds_toArray, List.set_cons_succ, List.set_cons_zero]
        refine wpAnyH_take (i := 7) (oi := Oper.mk (some 20) _ _ _ _ _) (v := undef) rfl (by kernel_rfl) (by kernel_rfl) (by kernel_rfl) (fun _ _ _ h => h) (Or.inr ⟨by rfl, rfl⟩) (by assumption) ?_
        simp only [Act.put, List.setIfInBounds_toArray, List.set_cons_succ, List.set_cons_zero]
        refine wpAnyH_take (i := 8) (oi := Oper.mk (some 21) _ _ _ _ _) (v := undef) rfl (by kernel_rfl) (by kernel_rfl) (by kernel_rfl) (fun _ _ _ h => h) (Or.inr ⟨by rfl, rfl⟩) (by assumption) ?_
        simp only [Act.put, List.setIfInBounds_toArray, List.set_cons_succ, List.set_cons_zero]
        refine wpAnyH_take (i := 9) (oi := Oper.mk (some 22) _ _ _ _ _) (v := undef) rfl (by kernel_rfl) (by kernel_rfl) (by kernel_rfl) (fun _ _ _ h => h) (Or.inr ⟨by rfl, rfl⟩) (by assumption) ?_
        simp only [Act.put, List.setIfInBounds_toArray, List.set_cons_succ, List.set_cons_zero]
        refine wpAnyH_take (i := 10) (oi := Oper.mk (some 23) _ _ _ _ _) (v := undef) rfl (by kernel_rfl) (by kernel_rfl) (by kernel_rfl) (fun _ _ _ h => h) (Or.inr ⟨by rfl, rfl⟩) (by assumption) ?_
        simp only [Act.put, List.setIfInBounds_toArray, List.set_cons_succ, List.set_cons_zero]
        refine wpAnyH_take (i := 11) (oi := Oper.mk (some 24) _ _ _ _ _) (v := undef) rfl (by kernel_rfl) (by kernel_rfl) (by kernel_rfl) (fun _ _ _ h => h) (Or.inr ⟨by rfl, rfl⟩) (by assumption) ?_
        simp only [Act.put, List.setIfInBounds_toArray, List.set_cons_succ, List.set_cons_zero]
        refine wpAnyH_take (i := 12) (oi := Oper.mk (some 25) _ _ _ _ _) (v := undef) rfl (by kernel_rfl) (by kernel_rfl) (by kernel_rfl) (fun _ _ _ h => h) (Or.inr ⟨by rfl, rfl⟩) (by assumption) ?_
        simp only [Act.put, List.setIfInBounds_toArray, List.set_cons_succ, List.set_cons_zero]
        refine wpAnyH_take (i := 13) (oi := Oper.mk (some 26) _ _ _ _ _) (v := undef) rfl (by kernel_rfl) (by kernel_rfl) (by kernel_rfl) (fun _ _ _ h => h) (Or.inr ⟨by rfl, rfl⟩) (by assumption) ?_
        simp only [Act.put, List.setIfInBounds_toArray, List.set_cons_succ, List.set_cons_zero]
        refine wpAnyH_take (i := 14) (oi := Oper.mk (some 27) _ _ _ _ _) (v := undef) rfl (by kernel_rfl) (by kernel_rfl) (by kernel_rfl) (fun _ _ _ h => h) (Or.inr ⟨by rfl, rfl⟩) (by assumption) ?_
        simp only [Act.put, List.setIfInBounds_toArray, List.set_cons_succ, List.set_cons_zero]
        refine wpAnyH_take (i := 15) (oi := Oper.mk (some 28) _ _ _ _ _) (v := .bool true) rfl (by kernel_rfl) (by kernel_rfl) (by kernel_rfl) (fun _ _ _ h => h) (Or.inl ⟨by rfl, ?_⟩) (by assumption) ?_
        · intro wX hSw
          (try dsimp only at hSw)
          go_simp
        simp only [Act.put, List.setIfInBounds_toArray, List.set_cons_succ, List.set_cons_zero]
        refine wpAnyH_done (by kernel_rfl) ?_ _
        have HN := hide (W0.out.trans (P1.out.mono W0.out.size))
        clear C0 b0 P1 q0 q1 q2
        go_wp2
        go_ret
        exact ⟨by rw [E3.out]; rfl, HN.out⟩
    · obtain rfl : k = L := by omega
      have hlt' : ¬ (k : Int) < (k : Int) := by omega
      have ER : Hid (R = false) := hide (by rw [← HF.out, List.drop_eq_nil_of_le (by rw [← HL.out]; exact Nat.le_refl _)]; rfl)
      have EC : Hid (C = if longT ts then 132 else 0) := hide (by rw [HC.out, ER.out]; rfl)
      by_cases h64 : 64 < k
      · have E3 : Hid (C = 132) := hide (by rw [EC.out]; unfold longT; rw [decide_eq_true (by rw [← HL.out]; exact h64)]; rfl)
        have h64' : (64 : Int) < (k : Int) := by omega
        clear HF hlt hzk EC
        go_wp2
        go_ret
        exact ⟨by rw [E3.out]; rfl, HW.out⟩
      · have hz1 := hzk (by omega)
        rw [List.take_of_length_le (by rw [← HL.out]; exact Nat.le_refl _)] at hz1
        have h64' : ¬ (64 : Int) < (k : Int) := by omega
        by_cases hs : 64 < sizeT ts
        · have E3 : Hid (C = 132) := hide (by rw [EC.out]; unfold longT; rw [decide_eq_true hs, Bool.or_true]; rfl)
          have hs' : (64 : Int) < z := by omega
          clear HF hlt hzk EC hz1 hs
          go_wp2
          go_ret
          exact ⟨by rw [E3.out]; rfl, HW.out⟩
        · have E3 : Hid (C = 0) := hide (by rw [EC.out]; unfold longT; rw [decide_eq_false hs, decide_eq_false (by rw [← HL.out]; exact h64)]; rfl)
          have hs' : ¬ (64 : Int) < z := by omega
          clear HF hlt hzk EC hz1 hs
          go_wp2
          go_ret
          exact ⟨by rw [E3.out]; rfl, HW.out⟩

set_option maxHeartbeats 1000000 in
theorem Check_nil (ao : Option Addr) (cap : Nat) (w : World) : Calls Tryd.prog 13 #[.slice ao 0 cap] w fun e w' => e = .returned (.int .i64 0) ∧ Below w.heap.size w w' := by
  go_enter Tryd.func13, Tryd.ntmps13
  go_wp2
  go_loopw [3, 8] (fun x p wr => x = .int .i64 0 ∧ p = .int .i64 0 ∧ wr = w) (fun _ p _ => 0)
  case atStart => exact ⟨rfl, rfl, rfl⟩
  case round =>
    obtain ⟨rfl, rfl, rfl⟩ := hrel
    go_wp2
    go_ret
    exact ⟨rfl, Below.refl _ _⟩

theorem Check_any {w : World} {v : Value} {ts : List Tok} (h : TSl w v ts) (hl : ts.length ≤ 140737488355328) (hz : SzT ts) (hT : U8 w) : Calls Tryd.prog 13 #[v] w fun e w' => e = .returned (.int .i64 (chkT ts : Int)) ∧ Below w.heap.size w w' := by
  obtain ⟨ao, cap, rfl, h2, h3⟩ := h
  rcases h3 with rfl | ⟨b, o, rfl, h3⟩
  · exact Check_nil ao cap w
  · exact Check_at b o cap ts w hl h2 hz hT h3

end Go.Proofs.YtobcbffakldfcaaDoor

namespace Go.Proofs.YtobcbffakldfcaaDoor
open Go.RowKit

theorem hasT_drop (ts : List Tok) (kd : Int) (i : Nat) (h : i < ts.length) : hasT (ts.drop i) kd = (decide ((tokN ts i).kind = kd) || hasT (ts.drop (i + 1)) kd) := by
  rw [tokN_drop h]; rfl

set_option maxHeartbeats 1000000 in
theorem has1_any (t : Tok) (g : Nat) (kd : Int) (w : World) (hg : w.cell? ⟨g, 0, none⟩ = some (.int .i64 kd)) : Calls Tryd.prog 30 #[tokV t, .pointer (some ⟨g, 0, none⟩)] w fun e w' => e = .returned (.bool (decide (t.kind = kd))) ∧ Below w.heap.size w w' := by
  obtain ⟨k, n, x⟩ := t
  unfold tokV
  simp only
  have c := cell_on ((Below.refl w.heap.size w).alloc (Nat.le_refl _) (.cells #[.int .i64 k, .int .i64 n, .string x] 32)) hg
  have AL : Hid (∀ o, Below w.heap.size w (w.alloc o)) := hide fun o => (Below.refl _ _).alloc (Nat.le_refl _) _
  by_cases h : k = kd
  · have h' : (k == kd) = true := beq_iff_eq.2 h
    rw [decide_eq_true h]
    clear hg h
    go_enter Tryd.func30, Tryd.ntmps30
    go_wp2
    go_ret
    exact ⟨rfl, AL.out _⟩
  · have h' : (k == kd) = false := beq_eq_false_iff_ne.2 h
    rw [decide_eq_false h]
    clear hg h
    go_enter Tryd.func30, Tryd.ntmps30
    go_wp2
    go_ret
    exact ⟨rfl, AL.out _⟩

set_option maxRecDepth 100000 in
set_option maxHeartbeats 2000000 in
theorem indexF_at (b o cap g : Nat) (kd : Int) (ts : List Tok) (w : World) (hl : ts.length ≤ 140737488355328) (hc : ts.length ≤ cap) (hg : w.cell? ⟨g, 0, none⟩ = some (.int .i64 kd)) (h3 : TkAt w b o ts) :
    Calls Tryd.prog 52 #[.slice (some ⟨b, o, none⟩) ts.length cap, .func (.func 30) #[] #[.pointer (some ⟨g, 0, none⟩)]] w fun e w' => (∃ z : Int, e = .returned (.int .i64 z) ∧ decide (0 ≤ z) = hasT ts kd) ∧ Below w.heap.size w w' := by
  have H3 := hide h3
  have HG := hide hg
  clear h3 hg
  obtain ⟨L, hL⟩ : ∃ L, L = ts.length := ⟨_, rfl⟩
  rw [← hL] at hl hc ⊢
  have HL := hide hL
  clear hL
  obtain ⟨R, hR⟩ : ∃ R, R = hasT ts kd := ⟨_, rfl⟩
  rw [← hR]
  have HR := hide hR
  clear hR
  go_enter Tryd.func52, Tryd.ntmps52
  go_wp2
  go_loopw [8] (fun q wr => ∃ k : Nat, k ≤ L ∧ q = .int .i64 (k : Int) ∧ Hid (hasT (ts.drop k) kd = R) ∧ Hid (Below w.heap.size w wr)) (fun q _ => L - (intOf q).toNat)
  case atStart => exact ⟨0, Nat.zero_le _, rfl, hide (by rw [HR.out, List.drop_zero]), Below.refl _ _⟩
  case round =>
    obtain ⟨k, hk, rfl, HF, HW⟩ := hrel
    by_cases hlt : k < L
    · have hlt' : (k : Int) < (L : Int) := by omega
      have hkt : k < ts.length := by rw [← HL.out]; exact hlt
      obtain ⟨c0, c1, c2⟩ := (H3.out.below HW.out) k hkt
      have e1 := hasT_drop ts kd k hkt
      rw [HF.out] at e1
      have E1 := hide e1
      have HC := hide (has1_any (tokN ts k) g kd wr (cell_on HW.out HG.out))
      generalize tokN ts k = t at *
      unfold tokV at HC
      clear HF e1 hkt
      by_cases hm : t.kind = kd
      · rw [decide_eq_true hm] at HC E1
        have E2 : Hid (R = true) := hide (by rw [E1.out]; rfl)
        clear hm E1
        go_wp2_with fail
        refine HC.out.mono ?_
        rintro e w1 ⟨rfl, hb⟩
        have HB := hide (HW.out.trans (hb.mono HW.out.size))
        clear hb HC
        go_wp2
        go_ret
        exact ⟨⟨_, rfl, by rw [E2.out]; exact decide_eq_true (by omega)⟩, HB.out⟩
      · rw [decide_eq_false hm] at HC E1
        have E2 : Hid (hasT (ts.drop (k + 1)) kd = R) := hide (by rw [E1.out]; rfl)
        clear hm E1
        go_wp2_with fail
        refine HC.out.mono ?_
        rintro e w1 ⟨rfl, hb⟩
        have HB := hide (HW.out.trans (hb.mono HW.out.size))
        clear hb HC
        go_wp2
        exact ⟨⟨k + 1, by omega, by go_num, E2, HB⟩, by simp [intOf]; omega⟩
    · obtain rfl : k = L := by omega
      have hlt' : ¬ (k : Int) < (k : Int) := by omega
      have ER : Hid (R = false) := hide (by rw [← HF.out, List.drop_eq_nil_of_le (by rw [← HL.out]; exact Nat.le_refl _)]; rfl)
      clear HF hlt
      go_wp2
      go_ret
      exact ⟨⟨_, rfl, by rw [ER.out]; rfl⟩, HW.out⟩

set_option maxHeartbeats 1000000 in
theorem indexF_nil (ao : Option Addr) (cap : Nat) (v : Value) (w : World) : Calls Tryd.prog 52 #[.slice ao 0 cap, v] w fun e w' => e = .returned (.int .i64 (-1)) ∧ Below w.heap.size w w' := by
  go_enter Tryd.func52, Tryd.ntmps52
  go_wp2
  go_loopw [8] (fun p wr => p = .int .i64 0 ∧ wr = w) (fun p _ => 0)
  case atStart => exact ⟨rfl, rfl⟩
  case round =>
    obtain ⟨rfl, rfl⟩ := hrel
    go_wp2
    go_ret
    exact ⟨rfl, Below.refl _ _⟩

theorem indexF_any {w : World} {v : Value} {ts : List Tok} (g : Nat) (kd : Int) (h : TSl w v ts) (hl : ts.length ≤ 140737488355328) (hg : w.cell? ⟨g, 0, none⟩ = some (.int .i64 kd)) :
    Calls Tryd.prog 52 #[v, .func (.func 30) #[] #[.pointer (some ⟨g, 0, none⟩)]] w fun e w' => (∃ z : Int, e = .returned (.int .i64 z) ∧ decide (0 ≤ z) = hasT ts kd) ∧ Below w.heap.size w w' := by
  obtain ⟨ao, cap, rfl, h2, h3⟩ := h
  rcases h3 with rfl | ⟨b, o, rfl, h3⟩
  · refine (indexF_nil ao cap _ w).mono ?_
    rintro e w' ⟨rfl, hb⟩
    exact ⟨⟨-1, rfl, rfl⟩, hb⟩
  · exact indexF_at b o cap g kd ts w hl h2 hg h3

set_option maxHeartbeats 1000000 in
theorem containsF_any {w : World} {v : Value} {ts : List Tok} (g : Nat) (kd : Int) (h : TSl w v ts) (hl : ts.length ≤ 140737488355328) (hg : w.cell? ⟨g, 0, none⟩ = some (.int .i64 kd)) :
    Calls Tryd.prog 29 #[v, .func (.func 30) #[] #[.pointer (some ⟨g, 0, none⟩)]] w fun e w' => e = .returned (.bool (hasT ts kd)) ∧ Below w.heap.size w w' := by
  have HC := hide (indexF_any g kd h hl hg)
  clear h hg
  go_enter Tryd.func29, Tryd.ntmps29
  go_wp2_with fail
  refine HC.out.mono ?_
  rintro e w1 ⟨⟨z, rfl, hz⟩, hb⟩
  have HB := hide hb
  have HZ := hide hz
  clear hb HC hz
  go_wp2
  go_ret
  exact ⟨by rw [← HZ.out]; rfl, HB.out⟩

set_option maxHeartbeats 1000000 in
theorem Has_any {w : World} {v : Value} {ts : List Tok} (kd : Int) (h : TSl w v ts) (hl : ts.length ≤ 140737488355328) :
    Calls Tryd.prog 16 #[v, .int .i64 kd] w fun e w' => e = .returned (.bool (hasT ts kd)) ∧ Below w.heap.size w w' := by
  have BA : Hid (Below w.heap.size w (w.alloc (.cells #[.int .i64 kd] 3))) := (Below.refl _ _).alloc (Nat.le_refl _) _
  have Q := hide (Blk.newAt w w.heap.size rfl #[.int .i64 kd] 3)
  have HC := hide (containsF_any w.heap.size kd (h.below BA.out) hl (Q.out.cell 0))
  clear h Q
  go_enter Tryd.func16, Tryd.ntmps16
  go_wp2_with fail
  refine HC.out.mono ?_
  rintro e w1 ⟨rfl, hb⟩
  have HB := hide (BA.out.trans (hb.mono BA.out.size))
  clear hb HC
  go_wp2
  go_ret
  exact ⟨rfl, HB.out⟩

theorem infoT : (Tryd.prog.info? 32).map (fun i => (i.zero, i.size, i.bytes)) = some (some (.agg #[.int .i64 0, .int .i64 0, .string ⟨#[]⟩]), 3, 32) := by kernel_rfl
def cellsT (ts : List Tok) : List Value := ts.flatMap fun t => [.int .i64 t.kind, .int .i64 t.many, .string t.text]
theorem cellsT_len (ts : List Tok) : (cellsT ts).length = ts.length * 3 := by
  induction ts with
  | nil => rfl
  | cons f r ih =>
    have : cellsT (f :: r) = [.int .i64 f.kind, .int .i64 f.many, .string f.text] ++ cellsT r := rfl
    rw [this, List.length_append, ih, List.length_cons]
    simp; omega
theorem cellsT_snoc (ts : List Tok) (t : Tok) : cellsT (ts ++ [t]) = cellsT ts ++ [.int .i64 t.kind, .int .i64 t.many, .string t.text] := by
  unfold cellsT; rw [List.flatMap_append]; rfl
end Go.Proofs.YtobcbffakldfcaaDoor

namespace Go.Proofs.YtobcbffakldfcaaDoor
open Go.RowKit

section
variable {D : Nat} {a b c : World}
end

theorem Blk.set1of3 {w : World} {b : Nat} {x0 x1 x2 : Value} {t : TypeId} (h : Blk w b #[x0, x1, x2] t) (v : Value) : Blk (w.setCell ⟨b, 1, none⟩ v) b #[x0, v, x2] t := by
  unfold Blk at *
  simp only [World.setCell, Array.getElem?_modify, if_true, h, Option.map_some]
  rfl
theorem Blk.set2of3 {w : World} {b : Nat} {x0 x1 x2 : Value} {t : TypeId} (h : Blk w b #[x0, x1, x2] t) (v : Value) : Blk (w.setCell ⟨b, 2, none⟩ v) b #[x0, x1, v] t := by
  unfold Blk at *
  simp only [World.setCell, Array.getElem?_modify, if_true, h, Option.map_some]
  rfl

end Go.Proofs.YtobcbffakldfcaaDoor

namespace Go.Proofs.YtobcbffakldfcaaDoor
open Go.RowKit

theorem blk_atT {w : World} {g m : Nat} {a rest : List Value} {r : Value} {T : TypeId} (h : Blk w g (a ++ r :: rest).toArray T) (ha : a.length = m) : w.cell? ⟨g, m, none⟩ = some r := by
  rw [h.cell m, ← ha]
  simp
theorem blk_setT {w : World} {g m : Nat} {a rest : List Value} {r : Value} {T : TypeId} (h : Blk w g (a ++ r :: rest).toArray T) (ha : a.length = m) (v : Value) : Blk (w.setCell ⟨g, m, none⟩ v) g (a ++ v :: rest).toArray T := by
  have e : ((a ++ r :: rest).toArray).set! m v = (a ++ v :: rest).toArray := by
    rw [← ha, Array.set!_eq_setIfInBounds, List.setIfInBounds_toArray]
    simp
  unfold Blk at *
  simp only [World.setCell, Array.getElem?_modify, if_true, h, Option.map_some]
  rw [← e]
  rfl
theorem blk_snocT {w : World} {g : Nat} {a rest : List Value} {v : Value} {T : TypeId} (h : Blk w g (a ++ v :: rest).toArray T) : Blk w g ((a ++ [v]) ++ rest).toArray T := by
  rw [List.append_assoc]; exact h
theorem blk_put3T {w : World} {g m : Nat} {a rest : List Value} {r0 r1 r2 : Value} {T : TypeId} (h : Blk w g (a ++ r0 :: r1 :: r2 :: rest).toArray T) (ha : a.length = m) (v0 v1 v2 : Value) :
    Blk (((w.setCell ⟨g, m, none⟩ v0).setCell ⟨g, m + 1, none⟩ v1).setCell ⟨g, m + 2, none⟩ v2) g (a ++ v0 :: v1 :: v2 :: rest).toArray T := by
  have h0 := blk_snocT (blk_setT h ha v0)
  have h1 := blk_snocT (blk_setT h0 (m := m + 1) (by simp [ha]) v1)
  have h2 := blk_setT h1 (m := m + 2) (by simp [ha]) v2
  simpa using h2
theorem blk_threeT {w : World} {g m : Nat} {a rest : List Value} {r0 r1 r2 : Value} {T : TypeId} (h : Blk w g (a ++ r0 :: r1 :: r2 :: rest).toArray T) (ha : a.length = m) :
    w.cell? ⟨g, m, none⟩ = some r0 ∧ w.cell? ⟨g, m + 1, none⟩ = some r1 ∧ w.cell? ⟨g, m + 2, none⟩ = some r2 :=
  ⟨blk_atT h ha, blk_atT (blk_snocT h) (by simp [ha]), blk_atT (blk_snocT (blk_snocT h)) (by simp [ha])⟩
theorem blk_madeT {w : World} {B n sz : Nat} {e : TypeId} {g : Nat} {xs : List Value} (h : w.ownsRow B e sz (.slice (some ⟨g, 0, none⟩) n n) n xs) : Blk w g xs.toArray e ∧ xs.length = n * sz := by
  refine ⟨?_, h.1⟩
  rcases h.2 with ⟨q, _⟩ | ⟨g', cap, cur, q, _, hh, _, _, hs, ht⟩
  · cases q
  · simp only [Value.slice.injEq, Option.some.injEq, Addr.mk.injEq] at q
    obtain ⟨⟨rfl, _, _⟩, _, rfl⟩ := q
    unfold Blk
    rw [hh]
    have : cur.toList = xs := by rw [← ht, List.take_of_length_le (by rw [Array.length_toList, hs]; exact Nat.le_refl _)]
    rw [← this]
theorem three_of {l : List Value} {n : Nat} (h : l.length = (n + 1) * 3) : ∃ r0 r1 r2 r, l = r0 :: r1 :: r2 :: r ∧ r.length = n * 3 := by
  match l, h with
  | r0 :: r1 :: r2 :: r, h => exact ⟨r0, r1, r2, r, rfl, by simp at h; omega⟩
  | [], h => simp at h
  | [_], h => simp at h; omega
  | [_, _], h => simp at h; omega

theorem cells_at : ∀ (ts : List Tok) (i : Nat), i < ts.length → (cellsT ts)[i * 3]? = some (.int .i64 (tokN ts i).kind) ∧ (cellsT ts)[i * 3 + 1]? = some (.int .i64 (tokN ts i).many) ∧ (cellsT ts)[i * 3 + 2]? = some (.string (tokN ts i).text)
  | [], i, h => by simp at h
  | t :: ts, 0, _ => ⟨rfl, rfl, rfl⟩
  | t :: ts, i + 1, h => by
    have := cells_at ts i (by simpa using h)
    have e : cellsT (t :: ts) = .int .i64 t.kind :: .int .i64 t.many :: .string t.text :: cellsT ts := rfl
    have en : tokN (t :: ts) (i + 1) = tokN ts i := rfl
    rw [e, en, show (i + 1) * 3 = i * 3 + 1 + 1 + 1 by omega]
    exact this
theorem TSl.of_blk {w : World} {g : Nat} {ts : List Tok} (h : Blk w g (cellsT ts).toArray 32) (cap : Nat) (hc : ts.length ≤ cap) : TSl w (.slice (some ⟨g, 0, none⟩) ts.length cap) ts :=
  ⟨_, cap, rfl, hc, .inr ⟨g, 0, rfl, fun i hi => by
    obtain ⟨a, b, c⟩ := cells_at ts i hi
    rw [Nat.zero_add]
    refine ⟨?_, ?_, ?_⟩
    · rw [h.cell]; simpa using a
    · rw [h.cell]; simpa using b
    · rw [h.cell]; simpa using c⟩⟩

def turn1 (f t : Int) (x : Tok) : Tok := if x.kind = f then ⟨t, 0, ⟨#[]⟩⟩ else x
theorem turnT_take (f t : Int) (ts : List Tok) (k : Nat) (h : k < ts.length) : turnT f t (ts.take (k + 1)) = turnT f t (ts.take k) ++ [turn1 f t (tokN ts k)] := by
  have e : tokN ts k = ts[k] := tokN_get (List.getElem?_eq_getElem h)
  unfold turnT
  rw [List.take_add_one, List.getElem?_eq_getElem h, e, List.map_append]
  rfl

set_option maxRecDepth 100000 in
set_option maxHeartbeats 4000000 in
theorem Turn_at (b o cap : Nat) (f t : Int) (ts : List Tok) (w : World) (hl : ts.length * 32 ≤ 140737488355328) (hc : ts.length ≤ cap) (h3 : TkAt w b o ts) :
    Calls Tryd.prog 11 #[.slice (some ⟨b, o, none⟩) ts.length cap, .int .i64 f, .int .i64 t] w fun e w' => ∃ g, e = .returned (.slice (some ⟨g, 0, none⟩) ts.length ts.length) ∧ w.heap.size ≤ g ∧ Blk w' g (cellsT (turnT f t ts)).toArray 32 ∧ Below w.heap.size w w' := by
  obtain ⟨i0, hi, hz0, hz1, hz2⟩ := info_parts infoT
  have H3 := hide h3
  clear h3
  obtain ⟨L, hL⟩ : ∃ L, L = ts.length := ⟨_, rfl⟩
  rw [← hL] at hl hc ⊢
  have HL := hide hL
  clear hL
  go_enter Tryd.func11, Tryd.ntmps11
  go_wp2_with (at_make; refine wpList_make_full _ rfl _ _ 22 rfl w.heap.size 32 i0 (.agg #[.int .i64 0, .int .i64 0, .string ⟨#[]⟩]) 3 Tryd.underlying22 hi hz0 hz1 _ _ _ _ L rfl rfl rfl rfl (by rw [hz2]; omega) (by unfold maxLen; omega) (Nat.le_refl _) ?_; intro w2 hrow hgr)
  have B12 : Below w.heap.size w w2 := ⟨hgr.os, hgr.tape, hgr.output, hgr.size, fun k hk => hgr.block k hk (by simp)⟩
  obtain ⟨hbk, hlen⟩ := blk_madeT hrow
  obtain ⟨g, hg⟩ : ∃ g, g = w.heap.size := ⟨_, rfl⟩
  rw [← hg] at hbk
  simp only [← hg]
  have HG := hide hg
  have Q2 := hide hbk
  have LN := hide hlen
  have U2 := hide B12
  generalize (madeCells (Value.agg #[.int .i64 0, .int .i64 0, .string ⟨#[]⟩]).cells (L * 3)).toList = xs at *
  clear hrow hgr B12 hbk hlen hg
  have hgw : w.heap.size ≤ g := by rw [HG.out]; exact Nat.le_refl _
  go_wp2
  go_loopw [15] (fun q wr => ∃ (k : Nat) (rest : List Value), k ≤ L ∧ q = .int .i64 (k : Int) ∧ Hid (rest.length = (L - k) * 3 ∧ Blk wr g (cellsT (turnT f t (ts.take k)) ++ rest).toArray 32) ∧ Hid (Below w.heap.size w wr)) (fun q _ => L - (intOf q).toNat)
  case atStart => exact ⟨0, xs, Nat.zero_le _, rfl, hide ⟨LN.out, Q2.out⟩, U2⟩
  case round =>
    obtain ⟨k, rest, hk, rfl, HF, HW⟩ := hrel
    by_cases hlt : k < L
    · have hlt' : (k : Int) < (L : Int) := by omega
      have hkt : k < ts.length := by rw [← HL.out]; exact hlt
      obtain ⟨c0, c1, c2⟩ := (H3.out.below HW.out) k hkt
      obtain ⟨r0, r1, r2, rest', hrest, hrl⟩ := three_of (l := rest) (n := L - (k + 1)) (by rw [HF.out.1]; congr 1; omega)
      subst hrest
      have HRL := hide hrl
      have CL : Hid ((cellsT (turnT f t (ts.take k))).length = k * 3) := hide (by rw [cellsT_len]; unfold turnT; rw [List.length_map, List.length_take, Nat.min_eq_left (by omega)])
      have ET := hide (turnT_take f t ts k hkt)
      obtain ⟨x, hx⟩ : ∃ x, x = tokN ts k := ⟨_, rfl⟩
      rw [← hx] at c0 c1 c2 ET
      obtain ⟨y, hy⟩ : ∃ y, y = turn1 f t x := ⟨_, rfl⟩
      rw [← hy] at ET
      have BA : Hid (∀ O, Below wr.heap.size wr (wr.alloc O)) := hide (fun O => (Below.refl _ _).alloc (Nat.le_refl _) _)
      have BY := hide (HF.out.2.alloc (.cells #[.int .i64 y.kind, .int .i64 y.many, .string y.text] 32))
      obtain ⟨b0, b1, b2⟩ := blk_threeT BY.out CL.out
      have f0 := BY.out.free (k * 3)
      have f1 := BY.out.free (k * 3 + 1)
      have f2 := BY.out.free (k * 3 + 2)
      have PN : Hid (Blk ((((wr.alloc (.cells #[.int .i64 y.kind, .int .i64 y.many, .string y.text] 32)).setCell ⟨g, k * 3, none⟩ (.int .i64 y.kind)).setCell ⟨g, k * 3 + 1, none⟩ (.int .i64 y.many)).setCell ⟨g, k * 3 + 2, none⟩ (.string y.text)) g (cellsT (turnT f t (ts.take (k + 1))) ++ rest').toArray 32) := hide (by
        rw [ET.out, cellsT_snoc, List.append_assoc]
        exact blk_put3T BY.out CL.out _ _ _)
      have UN := hide ((((HW.out.trans ((BA.out (.cells #[.int .i64 y.kind, .int .i64 y.many, .string y.text] 32)).mono HW.out.size)).setCell (p := ⟨g, k * 3, none⟩) hgw (.int .i64 y.kind)).setCell (p := ⟨g, k * 3 + 1, none⟩) hgw (.int .i64 y.many)).setCell (p := ⟨g, k * 3 + 2, none⟩) hgw (.string y.text))
      have hne : ¬ wr.heap.size = g := by have := HF.out.2.lt; omega
      have hne' : ¬ g = wr.heap.size := by have := HF.out.2.lt; omega
      have CA : Hid (∀ O, (wr.alloc O).cell? ⟨g, k * 3, none⟩ = some r0 ∧ (wr.alloc O).cell? ⟨g, k * 3 + 1, none⟩ = some r1 ∧ (wr.alloc O).cell? ⟨g, k * 3 + 2, none⟩ = some r2) := hide (fun O => blk_threeT (HF.out.2.alloc O) CL.out)
      clear hkt hx hrl BY BA HF HW CL CA
      by_cases hm : x.kind = f
      · have hm' : (x.kind == f) = true := beq_iff_eq.2 hm
        have hyv : y = ⟨t, 0, ⟨#[]⟩⟩ := by rw [hy]; unfold turn1; rw [if_pos hm]
        subst hyv
        clear hm hy
        simp only at b0 b1 b2 f0 f1 f2 PN UN
        go_wp2
        exact ⟨⟨k + 1, rest', by omega, by go_num, hide ⟨HRL.out, PN.out⟩, UN⟩, by simp [intOf]; omega⟩
      · have hm' : (x.kind == f) = false := beq_eq_false_iff_ne.2 hm
        have hyv : x = y := by rw [hy]; unfold turn1; rw [if_neg hm]
        subst hyv
        clear hm hy
        go_wp2
        exact ⟨⟨k + 1, rest', by omega, by go_num, hide ⟨HRL.out, PN.out⟩, UN⟩, by simp [intOf]; omega⟩
    · obtain rfl : k = L := by omega
      have hlt' : ¬ (k : Int) < (k : Int) := by omega
      have HQ : Hid (Blk wr g (cellsT (turnT f t ts)).toArray 32) := hide (by
        have q := HF.out
        have e : rest = [] := List.eq_nil_of_length_eq_zero (by rw [q.1]; omega)
        rw [e, List.append_nil, List.take_of_length_le (by rw [← HL.out]; exact Nat.le_refl _)] at q
        exact q.2)
      clear HF hlt
      go_wp2
      go_ret
      exact ⟨g, rfl, hgw, HQ.out, HW.out⟩

set_option maxRecDepth 100000 in
set_option maxHeartbeats 4000000 in
theorem Turn_nil (ao : Option Addr) (cap : Nat) (f t : Int) (w : World) :
    Calls Tryd.prog 11 #[.slice ao 0 cap, .int .i64 f, .int .i64 t] w fun e w' => ∃ g, e = .returned (.slice (some ⟨g, 0, none⟩) 0 0) ∧ w.heap.size ≤ g ∧ Blk w' g #[] 32 ∧ Below w.heap.size w w' := by
  obtain ⟨i0, hi, hz0, hz1, hz2⟩ := info_parts infoT
  go_enter Tryd.func11, Tryd.ntmps11
  go_wp2_with (at_make; refine wpList_make_full _ rfl _ _ 22 rfl w.heap.size 32 i0 (.agg #[.int .i64 0, .int .i64 0, .string ⟨#[]⟩]) 3 Tryd.underlying22 hi hz0 hz1 _ _ _ _ 0 rfl rfl rfl rfl (by rw [hz2]; omega) (by unfold maxLen; omega) (Nat.le_refl _) ?_; intro w2 hrow hgr)
  have B12 : Below w.heap.size w w2 := ⟨hgr.os, hgr.tape, hgr.output, hgr.size, fun k hk => hgr.block k hk (by simp)⟩
  obtain ⟨hbk, hlen⟩ := blk_madeT hrow
  generalize (madeCells (Value.agg #[.int .i64 0, .int .i64 0, .string ⟨#[]⟩]).cells (0 * 3)).toList = xs at *
  obtain rfl : xs = [] := List.eq_nil_of_length_eq_zero (by simpa using hlen)
  have Q2 : Hid (Blk w2 w.heap.size #[] 32) := hide hbk
  have U2 := hide B12
  clear hrow hgr B12 hbk hlen
  go_wp2
  go_loopw [15] (fun q wr => q = .int .i64 0 ∧ wr = w2) (fun q _ => 0)
  case atStart => exact ⟨rfl, rfl⟩
  case round =>
    obtain ⟨rfl, rfl⟩ := hrel
    go_wp2
    go_ret
    exact ⟨_, rfl, Nat.le_refl _, Q2.out, U2.out⟩

theorem Turn_any {w : World} {v : Value} {ts : List Tok} (f t : Int) (h : TSl w v ts) (hl : ts.length * 32 ≤ 140737488355328) :
    Calls Tryd.prog 11 #[v, .int .i64 f, .int .i64 t] w fun e w' => ∃ g, e = .returned (.slice (some ⟨g, 0, none⟩) ts.length ts.length) ∧ w.heap.size ≤ g ∧ Blk w' g (cellsT (turnT f t ts)).toArray 32 ∧ Below w.heap.size w w' := by
  obtain ⟨ao, cap, rfl, h2, h3⟩ := h
  rcases h3 with rfl | ⟨b, o, rfl, h3⟩
  · exact Turn_nil ao cap f t w
  · exact Turn_at b o cap f t ts w hl h2 h3

theorem turnT_len (f t : Int) (ts : List Tok) : (turnT f t ts).length = ts.length := by unfold turnT; rw [List.length_map]

end Go.Proofs.YtobcbffakldfcaaDoor

namespace Go.Proofs.YtobcbffakldfcaaDoor
open Go.RowKit

def GatV (w : World) (D : Nat) (v : Value) (G : List Tok) (sz co : Int) : Prop := Blk w D #[v, .int .i64 sz, .int .i64 co] 56 ∧ w.ownsRow (D + 1) 32 3 v G.length (cellsT G)
def Gat (w : World) (D : Nat) (G : List Tok) (sz co : Int) : Prop := ∃ v, GatV w D v G sz co

theorem Gat.lt {w : World} {D : Nat} {G : List Tok} {sz co : Int} (h : Gat w D G sz co) : D < w.heap.size := by
  obtain ⟨v, h1, _⟩ := h
  exact h1.lt
theorem Gat.below {w w' : World} {D : Nat} {G : List Tok} {sz co : Int} (h : Gat w D G sz co) (hb : Below w.heap.size w w') : Gat w' D G sz co := by
  obtain ⟨v, h1, h3⟩ := h
  exact ⟨v, h1.below hb h1.lt, World.ownsRow.kept h3 (row := none) ⟨hb.os, hb.tape, hb.output, hb.size, fun k hk _ => hb.block k hk⟩ (by cases v.ownBlock <;> simp)⟩

def Oth (D : Nat) (r : Option Nat) (w w' : World) : Prop := w.heap.size ≤ w'.heap.size ∧ ∀ b, b < w.heap.size → b ≠ D → some b ≠ r → w'.heap[b]? = w.heap[b]?
theorem Oth.refl (D : Nat) (r : Option Nat) (w : World) : Oth D r w w := ⟨Nat.le_refl _, fun _ _ _ _ => rfl⟩
theorem Oth.below {D : Nat} {r : Option Nat} {w w' w'' : World} (h : Oth D r w w') (hb : Below w'.heap.size w' w'') : Oth D r w w'' :=
  ⟨Nat.le_trans h.1 hb.size, fun b h1 h2 h3 => (hb.block b (Nat.lt_of_lt_of_le h1 h.1)).trans (h.2 b h1 h2 h3)⟩
theorem Oth.set {D : Nat} {r : Option Nat} {w w' : World} (h : Oth D r w w') (c i : Nat) (v : Value) (hc : c = D ∨ w.heap.size ≤ c ∨ r = some c) : Oth D r w (w'.setCell ⟨c, i, none⟩ v) := by
  refine ⟨by rw [show (w'.setCell ⟨c, i, none⟩ v).heap.size = w'.heap.size by simp [World.setCell]]; exact h.1, fun b h1 h2 h3 => ?_⟩
  have hne : c ≠ b := by
    rintro rfl
    rcases hc with q | q | q
    · exact h2 q
    · omega
    · exact h3 q.symm
  rw [← h.2 b h1 h2 h3]
  simp [World.setCell, Array.getElem?_modify, hne]
theorem Oth.alloc {D : Nat} {r : Option Nat} {w w' : World} (h : Oth D r w w') (o : Obj) : Oth D r w (w'.alloc o) := h.below ((Below.refl _ _).alloc (Nat.le_refl _) _)
theorem Oth.drew {D : Nat} {r : Option Nat} {w w' : World} (h : Oth D r w w') : Oth D r w w'.drew := h.below (Below.refl _ _).drew
theorem Oth.grown {D : Nat} {r : Option Nat} {w w' w'' : World} (h : Oth D r w w') (hg : w'.grownBy w'' r) : Oth D r w w'' :=
  ⟨Nat.le_trans h.1 hg.size, fun b h1 h2 h3 => (hg.block b (Nat.lt_of_lt_of_le h1 h.1) h3).trans (h.2 b h1 h2 h3)⟩

set_option maxHeartbeats 1000000 in
theorem sclone_any (s : ByteArray) (w : World) (hs : s.size ≤ 281474976710656) : Calls Tryd.prog 68 #[.string s] w fun e w' => e = .returned (.string s) ∧ Below w.heap.size w w' := by
  have HC := hide (Tryd.stringslite_Clone s w hs)
  go_enter Tryd.func68, Tryd.ntmps68
  go_wp2_with fail
  refine HC.out.mono ?_
  rintro e w1 ⟨rfl, hb⟩
  go_wp2
  go_ret
  exact ⟨rfl, hb⟩

theorem own_slice {w : World} {B n : Nat} {v : Value} {xs : List Value} (h : w.ownsRow B 32 3 v n xs) : ∃ ao cap, v = .slice ao n cap := by
  rcases h.2 with ⟨hv, hn⟩ | ⟨g, cap, cur, hv, _⟩
  · exact ⟨none, 0, by rw [hv, hn]⟩
  · exact ⟨_, cap, hv⟩
theorem Blk.set0T {w : World} {b : Nat} {x0 x1 x2 : Value} {t : TypeId} (h : Blk w b #[x0, x1, x2] t) (v : Value) : Blk (w.setCell ⟨b, 0, none⟩ v) b #[v, x1, x2] t := by
  unfold Blk at *
  simp only [World.setCell, Array.getElem?_modify, if_true, h, Option.map_some]
  rfl
theorem own_below {w w' : World} {B n : Nat} {v : Value} {xs : List Value} (h : w.ownsRow B 32 3 v n xs) (hb : Below w.heap.size w w') : w'.ownsRow B 32 3 v n xs :=
  World.ownsRow.kept h (row := none) ⟨hb.os, hb.tape, hb.output, hb.size, fun k hk _ => hb.block k hk⟩ (by cases v.ownBlock <;> simp)
theorem own_set {w : World} {B D i n : Nat} {v u : Value} {xs : List Value} (h : w.ownsRow B 32 3 v n xs) (hD : D < B) : (w.setCell ⟨D, i, none⟩ u).ownsRow B 32 3 v n xs := ownsRow_setCell_below h (a := ⟨D, i, none⟩) hD u

set_option maxRecDepth 100000 in
set_option maxHeartbeats 4000000 in
theorem keep_nil {w : World} {D : Nat} {v : Value} (t : Tok) (sz co : Int) (h : GatV w D v [] sz co) (hs0 : 0 ≤ sz) (hs1 : sz ≤ 1000) (ht : t.text.size ≤ 1000) :
    Calls Tryd.prog 54 #[.pointer (some ⟨D, 0, none⟩), tokV t] w fun e w' => e = .returned (.tuple #[]) ∧ Gat w' D [t] (sz + t.text.size) co ∧ Below D w w' ∧ Oth D v.ownBlock w w' := by
  obtain ⟨i0, hi, hz0, hz1, hz2⟩ := info_parts infoT
  obtain ⟨h1, h2⟩ := h
  have hDw := h1.lt
  obtain ⟨ao, cap, rfl⟩ := own_slice h2
  have NB : Hid (∀ q, (Value.slice ao ([] : List Tok).length cap).ownBlock = some q → q < w.heap.size) := hide (fun q hq => (World.ownsRow.lt h2 q hq).2)
  obtain ⟨k, n, x⟩ := t
  unfold tokV
  simp only [List.length_nil] at ht h1 h2 ⊢
  have HK := hide h1
  have H1 := hide (h1.alloc (.cells #[.int .i64 k, .int .i64 n, .string x] 32))
  have T1 := hide (Blk.newAt w w.heap.size rfl #[.int .i64 k, .int .i64 n, .string x] 32)
  have c0 := H1.out.cell 0
  have c1 := H1.out.cell 1
  have c2 := H1.out.cell 2
  have f0 := H1.out.free 0
  have f1 := H1.out.free 1
  have n1 : ¬ w.heap.size = D := by omega
  have n2 : ¬ D = w.heap.size := by omega
  clear h1
  go_enter Tryd.func54, Tryd.ntmps54
  go_wp2_with fail
  go_region
  obtain ⟨W1, hW1⟩ : ∃ W1, W1 = ((w.setCell ⟨D, 1, none⟩ (.int .i64 (sz + (x.size : Int)))).alloc (.cells #[.int .i64 k, .int .i64 n, .string x] 32)).drew := ⟨_, rfl⟩
  simp only [← hW1]
  have K1 : Hid (Blk W1 D #[.slice ao 0 cap, .int .i64 (sz + (x.size : Int)), .int .i64 co] 56) := hide (by rw [hW1]; exact (HK.out.set1of3 _).alloc _)
  have K2 : Hid (Blk W1 w.heap.size #[.int .i64 k, .int .i64 n, .string x] 32) := hide (by rw [hW1]; exact Blk.newAt _ _ (by simp [World.setCell]) _ _)
  have K3 : Hid (W1.ownsRow (D + 1) 32 3 (.slice ao 0 cap) 0 []) := hide (by
    rw [hW1]
    have q := own_set (i := 1) (u := .int .i64 (sz + (x.size : Int))) h2 (Nat.lt_succ_self D)
    exact own_below q ((Below.refl _ _).alloc (Nat.le_refl _) _).drew)
  have O1 : Hid (Oth D (Value.slice ao 0 cap).ownBlock w W1) := hide (by
    rw [hW1]
    exact (((Oth.refl _ _ _).set D 1 _ (.inl rfl)).alloc _).drew)
  have K4 : Hid (Below D w W1 ∧ w.heap.size < W1.heap.size) := hide (by
    rw [hW1]
    exact ⟨(((Below.refl D w).setCell (p := ⟨D, 1, none⟩) (Nat.le_refl _) _).alloc (by simp [World.setCell]; omega) _).drew, by simp [World.alloc, World.drew, World.setCell]⟩)
  clear hW1 h2 H1 T1 c0 c1 c2 f0 f1
  have c0 := K1.out.cell 0
  have d2 := K2.out.cell 2
  go_wp2_with fail
  go_region
  have HCl := hide (sclone_any x W1.drew (by omega))
  go_wp2_with fail
  refine HCl.out.mono ?_
  rintro e w2 ⟨rfl, hb0⟩
  have hb : Below W1.heap.size W1 w2 := (Below.refl _ _).drew.trans hb0
  obtain ⟨W3, hW3⟩ : ∃ W3, W3 = w2.setCell ⟨w.heap.size, 2, none⟩ (.string x) := ⟨_, rfl⟩
  have M1 : Hid (Blk W3 D #[.slice ao 0 cap, .int .i64 (sz + (x.size : Int)), .int .i64 co] 56) := hide (by rw [hW3]; exact (K1.out.below hb K1.out.lt).other (a := ⟨w.heap.size, 2, none⟩) n1 _)
  have P2 := hide (K2.out.below hb K2.out.lt)
  have M2 : Hid (Blk W3 w.heap.size #[.int .i64 k, .int .i64 n, .string x] 32) := hide (by rw [hW3]; exact P2.out.set2of3 _)
  have M4 : Hid (Below D w W3 ∧ w.heap.size < W3.heap.size) := hide (by
    rw [hW3]
    refine ⟨(K4.out.1.trans (hb.mono (Nat.le_of_lt (Nat.lt_of_lt_of_le hDw (Nat.le_of_lt K4.out.2))))).setCell (p := ⟨w.heap.size, 2, none⟩) (Nat.le_of_lt hDw) _, ?_⟩
    have := hb.size
    have := K4.out.2
    simp only [World.setCell, Array.size_modify]
    omega)
  have O3 : Hid (Oth D (Value.slice ao 0 cap).ownBlock w W3) := hide (by
    rw [hW3]
    exact (O1.out.below hb).set w.heap.size 2 _ (.inr (.inl (Nat.le_refl _))))
  have M3 : Hid (W3.ownsRow (D + 1) 32 3 (.slice ao 0 cap) 0 []) := hide (by
    rw [hW3]
    have q := own_below K3.out hb
    exact q.kept (row := some w.heap.size) ⟨rfl, rfl, rfl, by simp [World.setCell], fun j _ hj => by
      have : w.heap.size ≠ j := fun e => hj (by rw [e])
      simp [World.setCell, Array.getElem?_modify, this]⟩ (Or.inr (fun e => Nat.lt_irrefl _ (NB.out _ e))))
  have HW3 := hide hW3.symm
  have p2 := P2.out.cell 2
  have g2 := P2.out.free 2
  clear hb hb0 HCl K1 K2 K3 K4 O1 P2 hW3 c0 d2
  have c0 := M1.out.cell 0
  have d0 := M2.out.cell 0
  have d1 := M2.out.cell 1
  have d2 := M2.out.cell 2
  have hW3s : w.heap.size < W3.heap.size := M4.out.2
  have m1 : ¬ D = W3.heap.size := by omega
  have m2 : ¬ W3.heap.size = D := by omega
  have OW : Hid ((W3.alloc (.cells #[.int .i64 k, .int .i64 n, .string x] 32)).drew.ownsRow (D + 1) 32 3 (.slice ao 0 cap) 0 []) := hide (own_below M3.out ((Below.refl _ _).alloc (Nat.le_refl _) _).drew)
  have TB : Hid (Blk (W3.alloc (.cells #[.int .i64 k, .int .i64 n, .string x] 32)).drew W3.heap.size #[.int .i64 k, .int .i64 n, .string x] 32) := hide (Blk.newAt W3 W3.heap.size rfl _ _)
  have NEWS : Hid (∀ j u, (cellsT [(⟨k, n, x⟩ : Tok)])[j]? = some u → (W3.alloc (.cells #[.int .i64 k, .int .i64 n, .string x] 32)).drew.cell? ((⟨W3.heap.size, 0, none⟩ : Addr).add j) = some u) := hide (fun j u hj => by
    rw [Addr.add_lit, Nat.zero_add, TB.out.cell j, ← hj]
    show _ = [Value.int .i64 k, .int .i64 n, .string x][j]?
    simp)
  have ONE : Hid (∀ u ∈ cellsT [(⟨k, n, x⟩ : Tok)], u.oneCell' = true) := hide (fun u hu => by
    have : u ∈ [Value.int .i64 k, .int .i64 n, .string x] := hu
    simp only [List.mem_cons, List.not_mem_nil, or_false] at this
    rcases this with rfl | rfl | rfl <;> rfl)
  have f0 := M1.out.free 0
  have BASE : Hid (D + 1 ≤ (W3.alloc (.cells #[.int .i64 k, .int .i64 n, .string x] 32)).drew.heap.size) := hide (by show D + 1 ≤ (W3.heap.push _).size; rw [Array.size_push]; omega)
  have GK : Hid (∀ w4, (W3.alloc (.cells #[.int .i64 k, .int .i64 n, .string x] 32)).drew.grownBy w4 (Value.slice ao 0 cap).ownBlock → Blk w4 D #[.slice ao 0 cap, .int .i64 (sz + (x.size : Int)), .int .i64 co] 56) := hide (fun w4 hg => by
    have q := M1.out.alloc (.cells #[.int .i64 k, .int .i64 n, .string x] 32)
    unfold Blk at *
    rw [hg.block D (by show D < (W3.heap.push _).size; rw [Array.size_push]; omega) (fun e => by have := (World.ownsRow.lt M3.out _ e.symm).1; omega)]
    exact q)
  have FR : Hid (∀ w4, (W3.alloc (.cells #[.int .i64 k, .int .i64 n, .string x] 32)).drew.grownBy w4 (Value.slice ao 0 cap).ownBlock → Below D w w4) := hide (fun w4 hg => (M4.out.1.trans (((Below.refl _ _).alloc (Nat.le_refl _) _).drew.mono (by omega))).grown hg (Nat.le_of_succ_le BASE.out) (fun q hq => Nat.le_of_lt (World.ownsRow.lt OW.out q hq).1))
  have OR : Hid (∀ w4, (W3.alloc (.cells #[.int .i64 k, .int .i64 n, .string x] 32)).drew.grownBy w4 (Value.slice ao 0 cap).ownBlock → Oth D (Value.slice ao 0 cap).ownBlock w w4) := hide (fun w4 hg => (O3.out.alloc _).drew.grown hg)
  have M1a := hide (M1.out.alloc (.cells #[.int .i64 k, .int .i64 n, .string x] 32))
  have M2a := hide (M2.out.alloc (.cells #[.int .i64 k, .int .i64 n, .string x] 32))
  have ca0 := M1a.out.cell 0
  have da0 := M2a.out.cell 0
  have da1 := M2a.out.cell 1
  have da2 := M2a.out.cell 2
  go_wp2_with (simp only [HW3.out])
  clear TB HW3 p2 g2 M1a M2a
  go_region_law ((refine step_append_lies _ (by rfl) _ _ _ (by rfl) (D + 1) 32 i0 (.agg #[.int .i64 0, .int .i64 0, .string ⟨#[]⟩]) 3 32 Tryd.underlying22 hi hz0 hz1 hz2 rfl (by decide) (.slice ao 0 cap) 0 [] rfl OW.out ⟨W3.heap.size, 0, none⟩ 1 1 (cellsT [(⟨k, n, x⟩ : Tok)]) rfl rfl NEWS.out ONE.out (by decide) (by unfold maxLen; omega) (by omega) BASE.out _ rfl ?_; intro g cp w4 hown hgr hat hlt; have z0 := (GK.out w4 hgr).cell 0; have z1 := (GK.out w4 hgr).free 0))
  all_goals
    have BL := FR.out w4 hgr
    have OL := OR.out w4 hgr
    have BK := (GK.out w4 hgr).set0T (.slice (some ⟨g, 0, none⟩) 1 cp)
    have OK := own_set (i := 0) (u := .slice (some ⟨g, 0, none⟩) 1 cp) hown (Nat.lt_succ_self D)
    clear hgr hat hlt z0 z1
    go_end0
    exact ⟨rfl, ⟨_, BK, OK⟩, BL.setCell (p := ⟨D, 0, none⟩) (Nat.le_refl _) _, OL.set D 0 _ (.inl rfl)⟩

end Go.Proofs.YtobcbffakldfcaaDoor

namespace Go.Proofs.YtobcbffakldfcaaDoor
open Go.RowKit

theorem cellsT_mer (p : List Tok) (a t : Tok) (m : Nat) (hm : p.length = m) : ((cellsT (p ++ [a])).set (m * 3 + 2) (.string (a.text ++ t.text))).set (m * 3 + 1) (.int .i64 (a.many + t.many)) = cellsT (p ++ [merT a t]) := by
  rw [cellsT_snoc, cellsT_snoc]
  have hl := cellsT_len p
  rw [hm] at hl
  rw [← hl]
  simp [merT]
theorem cellsT_last (p : List Tok) (a : Tok) (m : Nat) (hm : p.length = m) : (cellsT (p ++ [a]))[m * 3]? = some (.int .i64 a.kind) ∧ (cellsT (p ++ [a]))[m * 3 + 1]? = some (.int .i64 a.many) ∧ (cellsT (p ++ [a]))[m * 3 + 2]? = some (.string a.text) := by
  rw [cellsT_snoc]
  have hl := cellsT_len p
  rw [hm] at hl
  rw [← hl]
  simp
theorem own_some {w : World} {B n : Nat} {v : Value} {xs : List Value} (h : w.ownsRow B 32 3 v n xs) (hn : n ≠ 0) : ∃ g cap, v = .slice (some ⟨g, 0, none⟩) n cap ∧ B ≤ g ∧ g < w.heap.size := by
  rcases h.2 with ⟨_, q⟩ | ⟨g, cap, cur, hv, hb, hg, _⟩
  · exact absurd q hn
  · exact ⟨g, cap, hv, hb, (Array.getElem?_eq_some_iff.1 hg).1⟩
set_option maxRecDepth 100000 in
set_option maxHeartbeats 4000000 in
theorem keep_more {w : World} {D : Nat} {v : Value} (p : List Tok) (a t : Tok) (sz co : Int) (h : GatV w D v (p ++ [a]) sz co) (hp : p.length ≤ 64) (hs0 : 0 ≤ sz) (hs1 : sz ≤ 1000) (ht : t.text.size ≤ 1000) (ha : a.text.size ≤ 1000) (hm0 : -1000 ≤ a.many) (hm1 : a.many ≤ 1000) (hn0 : -1000 ≤ t.many) (hn1 : t.many ≤ 1000) :
    Calls Tryd.prog 54 #[.pointer (some ⟨D, 0, none⟩), tokV t] w fun e w' => e = .returned (.tuple #[]) ∧ Gat w' D (if joinT a t then p ++ [merT a t] else p ++ [a] ++ [t]) (sz + t.text.size) co ∧ Below D w w' ∧ Oth D v.ownBlock w w' := by
  obtain ⟨i0, hi, hz0, hz1, hz2⟩ := info_parts infoT
  obtain ⟨h1, h2⟩ := h
  have hDw := h1.lt
  obtain ⟨g, cap, rfl, hg0, hg1⟩ := own_some h2 (by simp)
  rw [show (Value.slice (some ⟨g, 0, none⟩) (p ++ [a]).length cap).ownBlock = some g from rfl]
  obtain ⟨m, hm⟩ : ∃ m, m = p.length := ⟨_, rfl⟩
  obtain ⟨n, hn⟩ : ∃ n, n = (p ++ [a]).length := ⟨_, rfl⟩
  have hnm : n = m + 1 := by rw [hn, hm]; simp
  have HLP := hide hm.symm
  rw [← hm] at hp
  rw [← hn] at h1 h2
  clear hm hn
  obtain ⟨xs, hxs⟩ : ∃ xs, xs = cellsT (p ++ [a]) := ⟨_, rfl⟩
  have HX := hide hxs
  rw [← hxs] at h2
  have XL : Hid (xs[m * 3]? = some (.int .i64 a.kind) ∧ xs[m * 3 + 1]? = some (.int .i64 a.many) ∧ xs[m * 3 + 2]? = some (.string a.text)) := hide (by rw [hxs]; exact cellsT_last p a m HLP.out)
  clear hxs
  obtain ⟨k, nn, x⟩ := t
  obtain ⟨ka, na, y⟩ := a
  obtain ⟨J, hJ⟩ : ∃ J, J = joinT ⟨ka, na, y⟩ ⟨k, nn, x⟩ := ⟨_, rfl⟩
  have HJ := hide hJ
  rw [← hJ]
  clear hJ
  unfold tokV
  simp only at ht ha hm0 hm1 hn0 hn1 XL ⊢
  have HK := hide h1
  have H2 := hide h2
  have H1 := hide (h1.alloc (.cells #[.int .i64 k, .int .i64 nn, .string x] 32))
  have c0 := H1.out.cell 0
  have c1 := H1.out.cell 1
  have c2 := H1.out.cell 2
  have f0 := H1.out.free 0
  have f1 := H1.out.free 1
  have n1 : ¬ w.heap.size = D := by omega
  have n2 : ¬ D = w.heap.size := by omega
  clear h1 h2
  go_enter Tryd.func54, Tryd.ntmps54
  go_wp2_with fail
  go_region
  obtain ⟨W1, hW1⟩ : ∃ W1, W1 = ((w.setCell ⟨D, 1, none⟩ (.int .i64 (sz + (x.size : Int)))).alloc (.cells #[.int .i64 k, .int .i64 nn, .string x] 32)).drew := ⟨_, rfl⟩
  simp only [← hW1]
  have K1 : Hid (Blk W1 D #[.slice (some ⟨g, 0, none⟩) n cap, .int .i64 (sz + (x.size : Int)), .int .i64 co] 56) := hide (by rw [hW1]; exact (HK.out.set1of3 _).alloc _)
  have K2 : Hid (Blk W1 w.heap.size #[.int .i64 k, .int .i64 nn, .string x] 32) := hide (by rw [hW1]; exact Blk.newAt _ _ (by simp [World.setCell]) _ _)
  have K3 : Hid (W1.ownsRow (D + 1) 32 3 (.slice (some ⟨g, 0, none⟩) n cap) n xs) := hide (by
    rw [hW1]
    have q := own_set (i := 1) (u := .int .i64 (sz + (x.size : Int))) H2.out (Nat.lt_succ_self D)
    exact own_below q ((Below.refl _ _).alloc (Nat.le_refl _) _).drew)
  have O1 : Hid (Oth D (some g) w W1) := hide (by
    rw [hW1]
    exact (((Oth.refl _ _ _).set D 1 _ (.inl rfl)).alloc _).drew)
  have K4 : Hid (Below D w W1 ∧ w.heap.size < W1.heap.size) := hide (by
    rw [hW1]
    exact ⟨(((Below.refl D w).setCell (p := ⟨D, 1, none⟩) (Nat.le_refl _) _).alloc (by simp [World.setCell]; omega) _).drew, by simp [World.alloc, World.drew, World.setCell]⟩)
  clear hW1 H1 c0 c1 c2 f0 f1 HK H2
  have c0 := K1.out.cell 0
  have d0 := K2.out.cell 0
  have d1 := K2.out.cell 1
  have d2 := K2.out.cell 2
  have e0 : W1.cell? ⟨g, m * 3, none⟩ = some (.int .i64 ka) := (K3.out.cellAt (m * 3) (by omega)).trans XL.out.1
  have e1 : W1.cell? ⟨g, m * 3 + 1, none⟩ = some (.int .i64 na) := (K3.out.cellAt (m * 3 + 1) (by omega)).trans XL.out.2.1
  have e2 : W1.cell? ⟨g, m * 3 + 2, none⟩ = some (.string y) := (K3.out.cellAt (m * 3 + 2) (by omega)).trans XL.out.2.2
  have KP : Hid (∀ w', Below W1.heap.size W1 w' → w'.cell? ⟨D, 0, none⟩ = some (.slice (some ⟨g, 0, none⟩) n cap) ∧ (w'.cell? ⟨g, m * 3, none⟩ = some (.int .i64 ka) ∧ w'.cell? ⟨g, m * 3 + 1, none⟩ = some (.int .i64 na) ∧ w'.cell? ⟨g, m * 3 + 2, none⟩ = some (.string y)) ∧ w'.cell? ⟨w.heap.size, 0, none⟩ = some (.int .i64 k) ∧ w'.cell? ⟨w.heap.size, 1, none⟩ = some (.int .i64 nn) ∧ w'.cell? ⟨w.heap.size, 2, none⟩ = some (.string x)) := hide (fun w' hb => ⟨cell_on hb c0, ⟨cell_on hb e0, cell_on hb e1, cell_on hb e2⟩, cell_on hb d0, cell_on hb d1, cell_on hb d2⟩)
  have C1 : Hid (∀ X, Hid (Below W1.heap.size W1 X) → Calls Tryd.prog 27 #[.agg #[.int .i64 ka, .int .i64 na, .string y], .agg #[.int .i64 k, .int .i64 nn, .string x]] X fun x' w' => x' = .returned (.bool J) ∧ Hid (Below W1.heap.size W1 w') ∧ w'.cell? ⟨D, 0, none⟩ = some (.slice (some ⟨g, 0, none⟩) n cap) ∧ (w'.cell? ⟨g, m * 3, none⟩ = some (.int .i64 ka) ∧ w'.cell? ⟨g, m * 3 + 1, none⟩ = some (.int .i64 na) ∧ w'.cell? ⟨g, m * 3 + 2, none⟩ = some (.string y)) ∧ w'.cell? ⟨w.heap.size, 0, none⟩ = some (.int .i64 k) ∧ w'.cell? ⟨w.heap.size, 1, none⟩ = some (.int .i64 nn) ∧ w'.cell? ⟨w.heap.size, 2, none⟩ = some (.string x)) := hide (fun X hX => (join_any ⟨ka, na, y⟩ ⟨k, nn, x⟩ X).mono fun x w' ⟨h1, h2⟩ => by
    have hb := hX.out.trans (h2.mono hX.out.size)
    rw [← HJ.out] at h1
    exact ⟨h1, hb, KP.out w' hb⟩)
  have b0 : Hid (Below W1.heap.size W1 W1.drew) := hide (Below.refl _ _).drew
  have hn1' : (1 : Int) ≤ (n : Int) := by omega
  have hnb : (n : Int) ≤ 100 := by omega
  have hmn : (m : Int) < (n : Int) := by omega
  have hm0' : (0 : Int) ≤ (m : Int) := by omega
  have EM : Hid ((n : Int) - 1 = (m : Int)) := hide (by omega)
  clear hnm KP
  go_wp2_with fail
  rw [EM.out]
  have mk0 : True := trivial
  go_region_held3 (fun w' => w'.cell? ⟨D, 0, none⟩ = some (.slice (some ⟨g, 0, none⟩) n cap) ∧ (w'.cell? ⟨g, m * 3, none⟩ = some (.int .i64 ka) ∧ w'.cell? ⟨g, m * 3 + 1, none⟩ = some (.int .i64 na) ∧ w'.cell? ⟨g, m * 3 + 2, none⟩ = some (.string y)) ∧ w'.cell? ⟨w.heap.size, 0, none⟩ = some (.int .i64 k) ∧ w'.cell? ⟨w.heap.size, 1, none⟩ = some (.int .i64 nn) ∧ w'.cell? ⟨w.heap.size, 2, none⟩ = some (.string x)) (go_keep) (first
    | (clear mk0; go_at_call 27; refine (C1.out _ b0).mono ?_; rintro x' z1 ⟨rfl, P1, t0, ⟨t1, t2, t3⟩, t4, t5, t6⟩; have mk1 : True := trivial))
  have L1 := hide (K1.out.below P1.out K1.out.lt)
  have L2 := hide (K2.out.below P1.out K2.out.lt)
  have L3 := hide (own_below K3.out P1.out)
  have L4 : Hid (Below D w z1 ∧ w.heap.size < z1.heap.size) := hide (by
    have := P1.out.size
    have := K4.out.2
    exact ⟨K4.out.1.trans (P1.out.mono (by omega)), by omega⟩)
  have OZ := hide (O1.out.below P1.out)
  have hgz : g < z1.heap.size := by have := L4.out.2; omega
  have q1 : ¬ g = D := by omega
  have q2 : ¬ D = g := by omega
  have q3 : ¬ g = w.heap.size := by omega
  have q4 : ¬ w.heap.size = g := by omega
  clear K1 K2 K3 K4 O1 C1 b0 P1 mk1 c0 d0 d1 d2 e0 e1 e2 t0 t1 t2 t3 t4 t5 t6
  cases J
  · have c0 := L1.out.cell 0
    have d2 := L2.out.cell 2
    have HCl := hide (sclone_any x z1 (by omega))
    have NB : Hid (∀ q, (Value.slice (some ⟨g, 0, none⟩) n cap).ownBlock = some q → q = g) := hide (fun q hq => by simpa [Value.ownBlock] using hq.symm)
    go_wp2_with fail
    refine HCl.out.mono ?_
    rintro e w2 ⟨rfl, hb⟩
    obtain ⟨W3, hW3⟩ : ∃ W3, W3 = w2.setCell ⟨w.heap.size, 2, none⟩ (.string x) := ⟨_, rfl⟩
    have M1 : Hid (Blk W3 D #[.slice (some ⟨g, 0, none⟩) n cap, .int .i64 (sz + (x.size : Int)), .int .i64 co] 56) := hide (by rw [hW3]; exact (L1.out.below hb L1.out.lt).other (a := ⟨w.heap.size, 2, none⟩) n1 _)
    have P2 := hide (L2.out.below hb L2.out.lt)
    have M2 : Hid (Blk W3 w.heap.size #[.int .i64 k, .int .i64 nn, .string x] 32) := hide (by rw [hW3]; exact P2.out.set2of3 _)
    have M4 : Hid (Below D w W3 ∧ w.heap.size < W3.heap.size) := hide (by
      rw [hW3]
      refine ⟨(L4.out.1.trans (hb.mono (Nat.le_of_lt (Nat.lt_of_lt_of_le hDw (Nat.le_of_lt L4.out.2))))).setCell (p := ⟨w.heap.size, 2, none⟩) (Nat.le_of_lt hDw) _, ?_⟩
      have := hb.size
      have := L4.out.2
      simp only [World.setCell, Array.size_modify]
      omega)
    have O3 : Hid (Oth D (some g) w W3) := hide (by
      rw [hW3]
      exact (OZ.out.below hb).set w.heap.size 2 _ (.inr (.inl (Nat.le_refl _))))
    have M3 : Hid (W3.ownsRow (D + 1) 32 3 (.slice (some ⟨g, 0, none⟩) n cap) n xs) := hide (by
      rw [hW3]
      have q := own_below L3.out hb
      exact q.kept (row := some w.heap.size) ⟨rfl, rfl, rfl, by simp [World.setCell], fun j _ hj => by
        have : w.heap.size ≠ j := fun e => hj (by rw [e])
        simp [World.setCell, Array.getElem?_modify, this]⟩ (Or.inr (fun e => q4 (NB.out _ e))))
    have HW3 := hide hW3.symm
    have p2 := P2.out.cell 2
    have g2 := P2.out.free 2
    clear hb HCl L1 L2 L3 L4 OZ P2 hW3 c0 d2 hgz
    have c0 := M1.out.cell 0
    have d0 := M2.out.cell 0
    have d1 := M2.out.cell 1
    have d2 := M2.out.cell 2
    have hW3s : w.heap.size < W3.heap.size := M4.out.2
    have m1 : ¬ D = W3.heap.size := by omega
    have m2 : ¬ W3.heap.size = D := by omega
    have OW : Hid ((W3.alloc (.cells #[.int .i64 k, .int .i64 nn, .string x] 32)).drew.ownsRow (D + 1) 32 3 (.slice (some ⟨g, 0, none⟩) n cap) n xs) := hide (own_below M3.out ((Below.refl _ _).alloc (Nat.le_refl _) _).drew)
    have TB : Hid (Blk (W3.alloc (.cells #[.int .i64 k, .int .i64 nn, .string x] 32)).drew W3.heap.size #[.int .i64 k, .int .i64 nn, .string x] 32) := hide (Blk.newAt W3 W3.heap.size rfl _ _)
    have NEWS : Hid (∀ j u, (cellsT [(⟨k, nn, x⟩ : Tok)])[j]? = some u → (W3.alloc (.cells #[.int .i64 k, .int .i64 nn, .string x] 32)).drew.cell? ((⟨W3.heap.size, 0, none⟩ : Addr).add j) = some u) := hide (fun j u hj => by
      rw [Addr.add_lit, Nat.zero_add, TB.out.cell j, ← hj]
      show _ = [Value.int .i64 k, .int .i64 nn, .string x][j]?
      simp)
    have ONE : Hid (∀ u ∈ cellsT [(⟨k, nn, x⟩ : Tok)], u.oneCell' = true) := hide (fun u hu => by
      have : u ∈ [Value.int .i64 k, .int .i64 nn, .string x] := hu
      simp only [List.mem_cons, List.not_mem_nil, or_false] at this
      rcases this with rfl | rfl | rfl <;> rfl)
    have f0 := M1.out.free 0
    have BASE : Hid (D + 1 ≤ (W3.alloc (.cells #[.int .i64 k, .int .i64 nn, .string x] 32)).drew.heap.size) := hide (by show D + 1 ≤ (W3.heap.push _).size; rw [Array.size_push]; omega)
    have GK : Hid (∀ w4, (W3.alloc (.cells #[.int .i64 k, .int .i64 nn, .string x] 32)).drew.grownBy w4 (Value.slice (some ⟨g, 0, none⟩) n cap).ownBlock → Blk w4 D #[.slice (some ⟨g, 0, none⟩) n cap, .int .i64 (sz + (x.size : Int)), .int .i64 co] 56) := hide (fun w4 hg => by
      have q := M1.out.alloc (.cells #[.int .i64 k, .int .i64 nn, .string x] 32)
      unfold Blk at *
      rw [hg.block D (by show D < (W3.heap.push _).size; rw [Array.size_push]; omega) (fun e => by have := (World.ownsRow.lt M3.out _ e.symm).1; omega)]
      exact q)
    have FR : Hid (∀ w4, (W3.alloc (.cells #[.int .i64 k, .int .i64 nn, .string x] 32)).drew.grownBy w4 (Value.slice (some ⟨g, 0, none⟩) n cap).ownBlock → Below D w w4) := hide (fun w4 hg => (M4.out.1.trans (((Below.refl _ _).alloc (Nat.le_refl _) _).drew.mono (by omega))).grown hg (Nat.le_of_succ_le BASE.out) (fun q hq => Nat.le_of_lt (World.ownsRow.lt OW.out q hq).1))
    have OR : Hid (∀ w4, (W3.alloc (.cells #[.int .i64 k, .int .i64 nn, .string x] 32)).drew.grownBy w4 (Value.slice (some ⟨g, 0, none⟩) n cap).ownBlock → Oth D (some g) w w4) := hide (fun w4 hg => (O3.out.alloc _).drew.grown hg)
    have M1a := hide (M1.out.alloc (.cells #[.int .i64 k, .int .i64 nn, .string x] 32))
    have M2a := hide (M2.out.alloc (.cells #[.int .i64 k, .int .i64 nn, .string x] 32))
    have ca0 := M1a.out.cell 0
    have da0 := M2a.out.cell 0
    have da1 := M2a.out.cell 1
    have da2 := M2a.out.cell 2
    have G4 : Hid (n + 1 = (p ++ [(⟨ka, na, y⟩ : Tok)] ++ [(⟨k, nn, x⟩ : Tok)]).length) := hide (by have := EM.out; have := HLP.out; simp; omega)
    have G5 : Hid (xs ++ cellsT [(⟨k, nn, x⟩ : Tok)] = cellsT (p ++ [(⟨ka, na, y⟩ : Tok)] ++ [(⟨k, nn, x⟩ : Tok)])) := hide (by rw [HX.out, cellsT_snoc (p ++ [(⟨ka, na, y⟩ : Tok)])]; rfl)
    go_wp2_with (simp only [HW3.out])
    clear TB HW3 p2 g2 M1a M2a XL HX HLP HJ EM
    go_region_law ((refine step_append_lies _ (by rfl) _ _ _ (by rfl) (D + 1) 32 i0 (.agg #[.int .i64 0, .int .i64 0, .string ⟨#[]⟩]) 3 32 Tryd.underlying22 hi hz0 hz1 hz2 rfl (by decide) (.slice (some ⟨g, 0, none⟩) n cap) n xs rfl OW.out ⟨W3.heap.size, 0, none⟩ 1 1 (cellsT [(⟨k, nn, x⟩ : Tok)]) rfl rfl NEWS.out ONE.out (by decide) (by unfold maxLen; omega) (by omega) BASE.out _ rfl ?_; intro g' cp w4 hown hgr hat hlt; have z0 := (GK.out w4 hgr).cell 0; have z2 := (GK.out w4 hgr).free 0))
    all_goals
      have BL := FR.out w4 hgr
      have OL := OR.out w4 hgr
      have BK := (GK.out w4 hgr).set0T (.slice (some ⟨g', 0, none⟩) (n + 1) cp)
      have OK := own_set (i := 0) (u := .slice (some ⟨g', 0, none⟩) (n + 1) cp) hown (Nat.lt_succ_self D)
      rw [G5.out] at OK
      clear hgr hat hlt z0 z2
      go_end0
      rw [if_neg (by decide)]
      exact ⟨rfl, ⟨_, BK, by rw [← G4.out]; exact OK⟩, BL.setCell (p := ⟨D, 0, none⟩) (Nat.le_refl _) _, OL.set D 0 _ (.inl rfl)⟩
  · have c0 := L1.out.cell 0
    have d1 := L2.out.cell 1
    have d2 := L2.out.cell 2
    have e1 : z1.cell? ⟨g, m * 3 + 1, none⟩ = some (.int .i64 na) := (L3.out.cellAt (m * 3 + 1) (by omega)).trans XL.out.2.1
    have e2 : z1.cell? ⟨g, m * 3 + 2, none⟩ = some (.string y) := (L3.out.cellAt (m * 3 + 2) (by omega)).trans XL.out.2.2
    have f1 := L3.out.frozenAt (m * 3 + 1)
    have f2 := L3.out.frozenAt (m * 3 + 2)
    have hcat : ¬ 9223372036854775807 < y.size + x.size := by omega
    go_wp2_with fail
    go_region
    obtain ⟨W5, hW5⟩ : ∃ W5, W5 = (z1.setCell ⟨g, m * 3 + 2, none⟩ (.string (y ++ x))).drew := ⟨_, rfl⟩
    simp only [← hW5]
    have M1 : Hid (Blk W5 D #[.slice (some ⟨g, 0, none⟩) n cap, .int .i64 (sz + (x.size : Int)), .int .i64 co] 56) := hide (by rw [hW5]; exact L1.out.other (a := ⟨g, m * 3 + 2, none⟩) q1 _)
    have M2 : Hid (Blk W5 w.heap.size #[.int .i64 k, .int .i64 nn, .string x] 32) := hide (by rw [hW5]; exact L2.out.other (a := ⟨g, m * 3 + 2, none⟩) q3 _)
    have M3 : Hid (W5.ownsRow (D + 1) 32 3 (.slice (some ⟨g, 0, none⟩) n cap) n (xs.set (m * 3 + 2) (.string (y ++ x)))) := hide (by
      rw [hW5]
      exact own_below (L3.out.stored (m * 3 + 2) (.string (y ++ x))).1 (Below.refl _ _).drew)
    have O5 : Hid (Oth D (some g) w W5) := hide (by
      rw [hW5]
      exact (OZ.out.set g _ _ (.inr (.inr rfl))).drew)
    have M4 : Hid (Below D w W5) := hide (by
      rw [hW5]
      exact (L4.out.1.setCell (p := ⟨g, m * 3 + 2, none⟩) (by show D ≤ g; omega) _).drew)
    clear hW5 L1 L2 L3 L4 OZ c0 d1 d2 e1 e2 f1 f2 hgz
    have c0 := M1.out.cell 0
    have d1 := M2.out.cell 1
    have e1 : W5.cell? ⟨g, m * 3 + 1, none⟩ = some (.int .i64 na) := (M3.out.cellAt (m * 3 + 1) (by omega)).trans (by rw [List.getElem?_set_ne (by omega)]; exact XL.out.2.1)
    have f1 := M3.out.frozenAt (m * 3 + 1)
    have G1 : Hid (Blk (W5.setCell ⟨g, m * 3 + 1, none⟩ (.int .i64 (na + nn))) D #[.slice (some ⟨g, 0, none⟩) n cap, .int .i64 (sz + (x.size : Int)), .int .i64 co] 56) := hide (M1.out.other (a := ⟨g, m * 3 + 1, none⟩) q1 _)
    have G2 : Hid ((W5.setCell ⟨g, m * 3 + 1, none⟩ (.int .i64 (na + nn))).ownsRow (D + 1) 32 3 (.slice (some ⟨g, 0, none⟩) n cap) n (cellsT (p ++ [merT ⟨ka, na, y⟩ ⟨k, nn, x⟩]))) := hide (by
      have q := (M3.out.stored (m * 3 + 1) (.int .i64 (na + nn))).1
      rw [HX.out] at q
      rw [← cellsT_mer p ⟨ka, na, y⟩ ⟨k, nn, x⟩ m HLP.out]
      exact q)
    have G3 : Hid (Below D w (W5.setCell ⟨g, m * 3 + 1, none⟩ (.int .i64 (na + nn)))) := hide (M4.out.setCell (p := ⟨g, m * 3 + 1, none⟩) (by show D ≤ g; omega) _)
    have G4 : Hid (n = (p ++ [merT ⟨ka, na, y⟩ ⟨k, nn, x⟩]).length) := hide (by have := EM.out; have := HLP.out; simp; omega)
    clear M1 M2 M3 M4 XL HX HLP HJ
    go_wp2_with fail
    go_region
    go_wp2
    refine bodyPost_ret (results_none rfl _ _ _) rfl ?_
    exact ⟨rfl, ⟨_, G1.out, by rw [← G4.out]; exact own_below G2.out (Below.refl _ _).drew⟩, G3.out.drew, (O5.out.set g _ _ (.inr (.inr rfl))).drew⟩

end Go.Proofs.YtobcbffakldfcaaDoor

namespace Go.Proofs.YtobcbffakldfcaaDoor

theorem sizeT_app (a b : List Tok) : sizeT (a ++ b) = sizeT a + sizeT b := by unfold sizeT; rw [List.map_append, List.sum_append]
theorem sizeT_one (t : Tok) : sizeT [t] = t.text.size := by simp [sizeT]
theorem addT_size (F : List Tok) (t : Tok) : sizeT (addT F t) = sizeT F + t.text.size := by
  rcases nil_or_snoc F with rfl | ⟨p, a, rfl⟩
  · rw [addT_nil, sizeT_one]; simp [sizeT]
  · rw [addT_snoc]
    split
    · rw [sizeT_app, sizeT_app, sizeT_one, sizeT_one]
      have : (merT a t).text.size = a.text.size + t.text.size := ByteArray.size_append
      omega
    · rw [sizeT_app, sizeT_one]
theorem addT_len (F : List Tok) (t : Tok) : F.length ≤ (addT F t).length ∧ (addT F t).length ≤ F.length + 1 := by
  rcases nil_or_snoc F with rfl | ⟨p, a, rfl⟩
  · rw [addT_nil]; simp
  · rw [addT_snoc]
    split <;> simp
theorem addT_long (F : List Tok) (t : Tok) (h : longT F = true) : longT (addT F t) = true := by
  unfold longT at *
  simp only [Bool.or_eq_true, decide_eq_true_eq] at *
  have := addT_len F t
  have := addT_size F t
  omega
theorem badT_snoc (p : List Tok) (s : Tok) : badT none (p ++ [s]) = (badT none p || (!mayTok s || joinO p.getLast? s)) := by
  have := badT_app p none s []
  rw [this]
  have e : p.getLast?.or none = p.getLast? := by cases p.getLast? <;> rfl
  rw [e]
  simp [badT]
theorem may_five {t : Tok} (h : mayTok t = true) (hk : t.kind = 5) : t.text.size = 0 ∧ 1 ≤ t.many ∧ t.many ≤ 3 := by
  unfold mayTok at h
  rw [if_neg (by omega), if_neg (by omega), if_pos hk] at h
  simpa using h
theorem may_zero {t : Tok} (h : mayTok t = true) (hk : t.kind = 0) : t.text.size ≠ 0 ∧ (runesL (bys t.text)).isSome = true ∧ t.many = 0 := by
  unfold mayTok at h
  rw [if_pos hk] at h
  simpa using h
theorem may_many {t : Tok} (h : mayTok t = true) : 0 ≤ t.many ∧ t.many ≤ 3 := by
  unfold mayTok at h
  split at h
  · simp at h; omega
  · split at h
    · simp at h; omega
    · split at h
      · simp at h; omega
      · cases h
theorem runesL_both {a b : List UInt8} (ha : (runesL a).isSome = true) (hb : (runesL b).isSome = true) : (runesL (a ++ b)).isSome = true := by
  obtain ⟨n, hn⟩ := Option.isSome_iff_exists.1 ha
  rw [runesL_app a b n hn, Option.isSome_map]
  exact hb
theorem may_mer {a t : Tok} (ha : mayTok a = true) (ht : mayTok t = true) (hj : joinT a t = true) (hc : (merT a t).kind = 5 → (merT a t).many ≤ 3) : mayTok (merT a t) = true := by
  unfold joinT at hj
  simp only [Bool.and_eq_true, Bool.or_eq_true, decide_eq_true_eq] at hj
  have hs : (merT a t).text.size = a.text.size + t.text.size := ByteArray.size_append
  have hk : (merT a t).kind = a.kind := rfl
  have hm : (merT a t).many = a.many + t.many := rfl
  rcases hj.2 with h0 | h5
  · obtain ⟨a1, a2, a3⟩ := may_zero ha h0
    obtain ⟨b1, b2, b3⟩ := may_zero ht (by omega)
    unfold mayTok
    rw [if_pos (by omega)]
    have hv : (runesL (bys (merT a t).text)).isSome = true := by
      show (runesL (bys (a.text ++ t.text))).isSome = true
      rw [bys_append]
      exact runesL_both a2 b2
    rw [hv, decide_eq_true (by omega), decide_eq_true (by omega)]
    rfl
  · obtain ⟨a1, a2, a3⟩ := may_five ha h5
    obtain ⟨b1, b2, b3⟩ := may_five ht (by omega)
    have := hc (by omega)
    unfold mayTok
    rw [if_neg (by omega), if_neg (by omega), if_pos (by omega), decide_eq_true (by omega), decide_eq_true (by omega), decide_eq_true (by omega)]
    rfl
theorem addT_good (F : List Tok) (t : Tok) (hF : badT none F = false) (ht : mayTok t = true) (hc : coinsT (addT F t) ≤ 3) : badT none (addT F t) = false := by
  rcases nil_or_snoc F with rfl | ⟨p, a, rfl⟩
  · rw [addT_nil]
    simp [badT, joinO, ht]
  · rw [addT_snoc] at hc ⊢
    rw [badT_snoc] at hF
    simp only [Bool.or_eq_false_iff, Bool.not_eq_false'] at hF
    obtain ⟨h1, h2, h3⟩ := hF
    split
    · next hj =>
      rw [if_pos hj, coinsT_snoc] at hc
      rw [badT_snoc, h1, may_mer h2 ht hj (fun h5 => by rw [if_pos h5] at hc; exact hc), joinO_kind (p := p.getLast?) (t := merT a t) (u := a) rfl, h3]
      rfl
    · next hj =>
      have e1 : (p ++ [a]).getLast? = some a := by simp
      rw [badT_snoc, badT_snoc, h1, h2, h3, ht, e1]
      simp [joinO, hj]
theorem coins_add (F : List Tok) (t : Tok) (h : t.kind = 5 → t.many = 1) : coinsT (addT F t) = if t.kind = 5 then coinsT F + 1 else 0 := by
  rcases nil_or_snoc F with rfl | ⟨p, a, rfl⟩
  · rw [addT_nil]
    have : coinsT [t] = if t.kind = 5 then t.many else 0 := coinsT_snoc [] t
    rw [this]
    split
    · next hk => rw [h hk]; rfl
    · rfl
  · rw [addT_snoc, coinsT_snoc p a]
    by_cases hj : joinT a t = true
    · rw [if_pos hj, coinsT_snoc]
      unfold joinT at hj
      simp only [Bool.and_eq_true, Bool.or_eq_true, decide_eq_true_eq] at hj
      have hk : (merT a t).kind = a.kind := rfl
      have hm : (merT a t).many = a.many + t.many := rfl
      rw [hk, hm]
      by_cases h5 : a.kind = 5
      · rw [if_pos h5, if_pos h5, if_pos (by omega), h (by omega)]
      · rw [if_neg h5, if_neg h5, if_neg (by omega)]
    · rw [if_neg hj, coinsT_snoc]
      by_cases h5 : t.kind = 5
      · rw [if_pos h5, if_pos h5, h h5]
        have : ¬ a.kind = 5 := by
          intro e
          apply hj
          unfold joinT
          simp [e, h5]
        rw [if_neg this]; rfl
      · rw [if_neg h5, if_neg h5]
theorem coins_range {F : List Tok} (h : badT none F = false) : 0 ≤ coinsT F ∧ coinsT F ≤ 3 := by
  rcases nil_or_snoc F with rfl | ⟨p, a, rfl⟩
  · decide
  · rw [coinsT_snoc]
    rw [badT_snoc] at h
    simp only [Bool.or_eq_false_iff, Bool.not_eq_false'] at h
    have := may_many h.2.1
    split <;> omega

structure GRel (G F : List Tok) : Prop where
  good : badT none G = false
  goodF : badT none F = false
  same : G = F ∨ longT G = true ∧ longT F = true
  len : G.length ≤ 65
  size : sizeT G ≤ 68
theorem GRel.nil : GRel [] [] := ⟨rfl, rfl, .inl rfl, by decide, by decide⟩
theorem GRel.chk {G F : List Tok} (h : GRel G F) : chkT G = chkT F := by
  unfold chkT
  rw [h.good, h.goodF]
  rcases h.same with e | ⟨h1, h2⟩
  · rw [e]
  · rw [h1, h2]
theorem GRel.eq {G F : List Tok} (h : GRel G F) (hc : chkT F = 0) : G = F := by
  rcases h.same with e | ⟨_, h2⟩
  · exact e
  · unfold chkT at hc
    rw [h.goodF, h2] at hc
    cases hc
theorem GRel.more {G F : List Tok} (h : GRel G F) (t : Tok) (ht : mayTok t = true) (h4 : t.text.size ≤ 4) (hl : G.length ≤ 64) (hs : sizeT G ≤ 64) (hc : coinsT (addT F t) ≤ 3) : G = F ∧ GRel (addT G t) (addT F t) := by
  have e : G = F := by
    rcases h.same with e | ⟨h1, _⟩
    · exact e
    · unfold longT at h1
      simp at h1; omega
  subst e
  refine ⟨rfl, addT_good G t h.good ht hc, addT_good G t h.good ht hc, .inl rfl, ?_, ?_⟩
  · have := addT_len G t; omega
  · have := addT_size G t; omega
theorem GRel.stay {G F : List Tok} (h : GRel G F) (t : Tok) (ht : mayTok t = true) (hl : ¬ (G.length ≤ 64 ∧ sizeT G ≤ 64)) (hc : coinsT (addT F t) ≤ 3) : GRel G (addT F t) := by
  have hG : longT G = true := by unfold longT; simp; omega
  have hF : longT F = true := by
    rcases h.same with e | ⟨_, h2⟩
    · rw [← e]; exact hG
    · exact h2
  exact ⟨h.good, addT_good F t h.goodF ht hc, .inr ⟨hG, addT_long F t hF⟩, h.len, h.size⟩
theorem GRel.last {G F : List Tok} {p : List Tok} {a : Tok} (h : GRel G F) (e : G = p ++ [a]) : a.text.size ≤ 68 ∧ 0 ≤ a.many ∧ a.many ≤ 3 := by
  have h1 := h.good
  have h2 := h.size
  rw [e] at h1 h2
  rw [badT_snoc] at h1
  simp only [Bool.or_eq_false_iff, Bool.not_eq_false'] at h1
  rw [sizeT_app, sizeT_one] at h2
  have := may_many h1.2.1
  omega

end Go.Proofs.YtobcbffakldfcaaDoor
