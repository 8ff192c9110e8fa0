/-
  What affix's Check answers.
  What affix's Turn and Has answer.
  What affix's kindOf, isLetter, after and plain answer.
  Worlds that are as they were, but for one block and for new ones.
  What affix's Turn answers: a list of its own.
  What follows for tokens and texts: texts joined by a sign; what is printed is read as it was.
  What affix's gathering keeps: keep and add.
-/
import Derived.Test.YtobcbffakldfcaaDoorDB2
import Derived.Deep.RegionHeld3
import Derived.Deep.Upon
import Derived.Test.YtobcbffakldfcaaDoorDB1
import Derived.Laws.OwnMore
import Derived.Deep.RegionLaw
import Derived.Deep.AppendLies
namespace Go.Proofs.YtobcbffakldfcaaDoor
open Go.RowKit

def prevT (ts : List Tok) (k : Nat) : Option Tok := if k = 0 then none else some (tokN ts (k - 1))
theorem badT_drop (ts : List Tok) (k : Nat) (h : k < ts.length) : badT (prevT ts k) (ts.drop k) = ((!mayTok (tokN ts k) || joinO (prevT ts k) (tokN ts k)) || badT (prevT ts (k + 1)) (ts.drop (k + 1))) := by
  rw [tokN_drop h]
  have : prevT ts (k + 1) = some (tokN ts k) := by unfold prevT; rw [if_neg (by omega)]; rfl
  rw [this]
  rfl
theorem sizeT_take (ts : List Tok) (k : Nat) (h : k < ts.length) : sizeT (ts.take (k + 1)) = sizeT (ts.take k) + (tokN ts k).text.size := by
  have e : tokN ts k = ts[k] := tokN_get (List.getElem?_eq_getElem h)
  unfold sizeT
  rw [List.take_add_one, List.getElem?_eq_getElem h, e, List.map_append, List.sum_append]
  simp
theorem sizeT_bound (ts : List Tok) (hz : SzT ts) : ∀ k, k ≤ ts.length → sizeT (ts.take k) ≤ k * 140737488355328
  | 0, _ => by simp [sizeT]
  | k + 1, h => by
    rw [sizeT_take ts k h]
    have := sizeT_bound ts hz k (by omega)
    have := hz k
    omega

set_option maxRecDepth 100000 in
set_option maxHeartbeats 4000000 in
theorem Check_at (b o cap : Nat) (ts : List Tok) (w : World) (hl : ts.length ≤ 140737488355328) (hc : ts.length ≤ cap) (hz : SzT ts) (hT : U8 w) (h3 : TkAt w b o ts) :
    Calls Tryd.prog 13 #[.slice (some ⟨b, o, none⟩) ts.length cap] w fun e w' => e = .returned (.int .i64 (chkT ts : Int)) ∧ Below w.heap.size w w' := by
  have H3 := hide h3
  have HT := hide hT
  have HZ := hide hz
  clear h3 hT hz
  obtain ⟨L, hL⟩ : ∃ L, L = ts.length := ⟨_, rfl⟩
  rw [← hL] at hl hc ⊢
  have HL := hide hL
  clear hL
  obtain ⟨R, hR⟩ : ∃ R, R = badT none ts := ⟨_, rfl⟩
  have HR := hide hR
  obtain ⟨C, hC⟩ : ∃ C, C = chkT ts := ⟨_, rfl⟩
  rw [← hC]
  have HC : Hid (C = if R then 131 else if longT ts then 132 else 0) := hide (by rw [hC, hR]; rfl)
  clear hR hC
  go_enter Tryd.func13, Tryd.ntmps13
  go_wp2
  go_loopw [3, 8] (fun x q wr => ∃ (k : Nat) (z : Int), k ≤ L ∧ x = .int .i64 z ∧ (k ≤ 64 → z = (sizeT (ts.take k) : Nat)) ∧ q = .int .i64 (k : Int) ∧ Hid (badT (prevT ts k) (ts.drop k) = R) ∧ Hid (Below w.heap.size w wr)) (fun _ q _ => L - (intOf q).toNat)
  case atStart => exact ⟨0, 0, Nat.zero_le _, rfl, fun _ => by simp [sizeT], rfl, hide (by rw [HR.out, List.drop_zero]; rfl), Below.refl _ _⟩
  case round =>
    obtain ⟨k, z, hk, rfl, hzk, rfl, HF, HW⟩ := hrel
    by_cases hlt : k < L
    · have hlt' : (k : Int) < (L : Int) := by omega
      have hkt : k < ts.length := by rw [← HL.out]; exact hlt
      have HA := hide (H3.out.below HW.out)
      obtain ⟨c0, c1, c2⟩ := HA.out k hkt
      have e1 := badT_drop ts k hkt
      rw [HF.out] at e1
      have hzg := HZ.out k
      have HS : Hid (k ≤ 64 → z + ((tokN ts k).text.size : Int) = (sizeT (ts.take (k + 1)) : Nat) ∧ 0 ≤ z ∧ z ≤ 64 * 140737488355328) := hide (fun h => by
        have h1 := hzk h
        have h2 := sizeT_bound ts HZ.out k (by omega)
        rw [sizeT_take ts k hkt]
        omega)
      have HP : Hid (∀ j, k = j + 1 → TkAt wr b o ts ∧ j < ts.length ∧ prevT ts k = some (tokN ts j)) := hide (fun j hj => ⟨HA.out, by omega, by subst hj; unfold prevT; rw [if_neg (by omega)]; rfl⟩)
      obtain ⟨g, hg⟩ : ∃ g, g = tokN ts k := ⟨_, rfl⟩
      rw [← hg] at c0 c1 c2 e1 hzg HS
      obtain ⟨WA, hWA⟩ : ∃ WA, WA = wr.alloc (.cells #[.int .i64 g.kind, .int .i64 g.many, .string g.text] 32) := ⟨_, rfl⟩
      have BA : Hid (Below wr.heap.size wr WA) := hide (by rw [hWA]; exact (Below.refl _ _).alloc (Nat.le_refl _) _)
      have Q := hide (Blk.newAt wr wr.heap.size rfl #[.int .i64 g.kind, .int .i64 g.many, .string g.text] 32)
      rw [← hWA] at Q
      have HWA := hide hWA.symm
      have TA := hide ((HT.out.below HW.out).below BA.out)
      have W0 := hide (HW.out.trans (BA.out.mono HW.out.size))
      have E1 := hide e1
      have q0 := Q.out.cell 0
      have q1 := Q.out.cell 1
      have q2 := Q.out.cell 2
      have hzg' : g.text.size ≤ 9223372036854775807 := by omega
      have b0 : Hid (Below WA.heap.size WA WA.drew) := (Below.refl _ _).drew
      clear hg hWA HF HW e1 HA hkt hzk
      by_cases hm : mayTok g = true
      · rcases Nat.eq_zero_or_pos k with hk0 | hk0
        · have hk0' : ¬ (0 : Int) < (k : Int) := by omega
          have E2 : Hid (badT (prevT ts (k + 1)) (ts.drop (k + 1)) = R) := hide (by rw [E1.out, hm, show prevT ts k = none from by unfold prevT; rw [if_pos hk0]]; rfl)
          have C0 : Hid (∀ X, Hid (Below WA.heap.size WA X) → Calls Tryd.prog 26 #[.agg #[.int .i64 g.kind, .int .i64 g.many, .string g.text]] X fun x w' => x = .returned (.bool true) ∧ Hid (Below WA.heap.size WA w') ∧ w'.cell? ⟨wr.heap.size, 0, none⟩ = some (.int .i64 g.kind) ∧ w'.cell? ⟨wr.heap.size, 1, none⟩ = some (.int .i64 g.many) ∧ w'.cell? ⟨wr.heap.size, 2, none⟩ = some (.string g.text)) := hide (fun X hX => (may_any g X hzg' (TA.out.below hX.out)).mono fun x w' ⟨h1, h2⟩ => by
            have hb := hX.out.trans (h2.mono hX.out.size)
            have Q' := Q.out.below hb Q.out.lt
            rw [hm] at h1
            exact ⟨h1, hb, Q'.cell 0, Q'.cell 1, Q'.cell 2⟩)
          obtain ⟨a1, a2, a3⟩ := HS.out (by omega)
          have A1 := hide a1
          have HK0 := hide hk0
          clear hm E1 HP HZ HS a1 hk0
          go_wp2_with (simp only [HWA.out])
          have mk0 : True := trivial
          refine wp_region_held_drew (S := (fun w' => w'.cell? ⟨wr.heap.size, 0, none⟩ = some (.int .i64 g.kind) ∧ w'.cell? ⟨wr.heap.size, 1, none⟩ = some (.int .i64 g.many) ∧ w'.cell? ⟨wr.heap.size, 2, none⟩ = some (.string g.text))) (by kernel_rfl) ?_ (fun hHeld => ?_)
          · (try dsimp only)
            go_keep
          refine wpAnyH_take (i := 0) (oi := Oper.mk (some 13) _ _ _ _ _) (v := .agg #[.int .i64 g.kind, .int .i64 g.many, .string g.text]) rfl (by kernel_rfl) (by kernel_rfl) (by kernel_rfl) (fun _ _ _ h => h) (Or.inl ⟨by rfl, ?_⟩) (by assumption) ?_
          · intro wX hSw
            (try dsimp only at hSw)
            go_simp
          simp only [Act.put, List.setIfInBounds_toArray, List.set_cons_succ, List.set_cons_zero]
          refine wpAnyH_ready (rs := [1]) (by kernel_rfl) (by simp) ?_
          refine AllReadyH.cons (o := Oper.mk (some 14) _ _ _ _ _) rfl (fun K hK => ?_) AllReadyH.nil
          go_simp
          go_at_call 26
          refine (C0.out _ b0).mono ?_
          rintro x z1 ⟨rfl, P1, t0, t1, t2⟩
          refine hK.out _ _ ?_ (fun hHeld => ?_)
          · (try dsimp only)
            go_keep
          clear hK K
          refine wpAnyH_take (i := 2) (oi := Oper.mk (some 15) _ _ _ _ _) (v := .bool false) rfl (by kernel_rfl) (by kernel_rfl) (by kernel_rfl) (fun _ _ _ h => h) (Or.inl ⟨by rfl, ?_⟩) (by assumption) ?_
          · intro wX hSw
            (try dsimp only at hSw)
            go_simp
          simp only [Act.put, List.setIfInBounds_toArray, List.set_cons_succ, List.set_cons_zero]
          refine wpAnyH_take (i := 3) (oi := Oper.mk (some 16) _ _ _ _ _) (v := .bool false) rfl (by kernel_rfl) (by kernel_rfl) (by kernel_rfl) (fun _ _ _ h => h) (Or.inl ⟨by rfl, ?_⟩) (by assumption) ?_
          · intro wX hSw
            (try dsimp only at hSw)
            go_simp
          simp only [Act.put, List.setIfInBounds_toArray, List.set_cons_succ, List.set_cons_zero]
          refine wpAnyH_take (i := 4) (oi := Oper.mk (some 17) _ _ _ _ _) (v := .int .i64 (k : Int)) rfl (by kernel_rfl) (by kernel_rfl) (by kernel_rfl) (fun _ _ _ h => h) (Or.inl ⟨by rfl, ?_⟩) (by assumption) ?_
          · intro wX hSw
            (try dsimp only at hSw)
            go_simp
          simp only [Act.put, List.setIfInBounds_toArray, List.set_cons_succ, List.set_cons_zero]
          refine wpAnyH_take (i := 5) (oi := Oper.mk (some 18) _ _ _ _ _) (v := .bool false) rfl (by kernel_rfl) (by kernel_rfl) (by kernel_rfl) (fun _ _ _ h => h) (Or.inl ⟨by rfl, ?_⟩) (by assumption) ?_
          · intro wX hSw
            (try dsimp only at hSw)
            (go_simp; try exact HK0.out)
          simp only [Act.put, List.setIfInBounds_toArray, List.set_cons_succ, List.set_cons_zero]
          refine wpAnyH_take (i := 6) (oi := Oper.mk (some 19) _ _ _ _ _) (v := .bool false) rfl (by kernel_rfl) (by kernel_rfl) (by kernel_rfl) (fun _ _ _ h => h) (Or.inl ⟨by rfl, ?_⟩) (by assumption) ?_
          · intro wX hSw
            (try dsimp only at hSw)
            go_simp
          simp only [Act.put, List.setIfInBounds_toArray, List.set_cons_succ, List.set_cons_zero]
          refine wpAnyH_take (i := 7) (oi := Oper.mk (some 20) _ _ _ _ _) (v := undef) rfl (by kernel_rfl) (by kernel_rfl) (by kernel_rfl) (fun _ _ _ h => h) (Or.inr ⟨by rfl, rfl⟩) (by assumption) ?_
          simp only [Act.put, List.setIfInBounds_toArray, List.set_cons_succ, List.set_cons_zero]
          refine wpAnyH_take (i := 8) (oi := Oper.mk (some 21) _ _ _ _ _) (v := undef) rfl (by kernel_rfl) (by kernel_rfl) (by kernel_rfl) (fun _ _ _ h => h) (Or.inr ⟨by rfl, rfl⟩) (by assumption) ?_
          simp only [Act.put, List.setIfInBounds_toArray, List.set_cons_succ, List.set_cons_zero]
          refine wpAnyH_take (i := 9) (oi := Oper.mk (some 22) _ _ _ _ _) (v := undef) rfl (by kernel_rfl) (by kernel_rfl) (by kernel_rfl) (fun _ _ _ h => h) (Or.inr ⟨by rfl, rfl⟩) (by assumption) ?_
          simp only [Act.put, List.setIfInBounds_toArray, List.set_cons_succ, List.set_cons_zero]
          refine wpAnyH_take (i := 10) (oi := Oper.mk (some 23) _ _ _ _ _) (v := undef) rfl (by kernel_rfl) (by kernel_rfl) (by kernel_rfl) (fun _ _ _ h => h) (Or.inr ⟨by rfl, rfl⟩) (by assumption) ?_
          simp only [Act.put, List.setIfInBounds_toArray, List.set_cons_succ, List.set_cons_zero]
          refine wpAnyH_take (i := 11) (oi := Oper.mk (some 24) _ _ _ _ _) (v := undef) rfl (by kernel_rfl) (by kernel_rfl) (by kernel_rfl) (fun _ _ _ h => h) (Or.inr ⟨by rfl, rfl⟩) (by assumption) ?_
          simp only [Act.put, List.setIfInBounds_toArray, List.set_cons_succ, List.set_cons_zero]
          refine wpAnyH_take (i := 12) (oi := Oper.mk (some 25) _ _ _ _ _) (v := undef) rfl (by kernel_rfl) (by kernel_rfl) (by kernel_rfl) (fun _ _ _ h => h) (Or.inr ⟨by rfl, rfl⟩) (by assumption) ?_
          simp only [Act.put, List.setIfInBounds_toArray, List.set_cons_succ, List.set_cons_zero]
          refine wpAnyH_take (i := 13) (oi := Oper.mk (some 26) _ _ _ _ _) (v := undef) rfl (by kernel_rfl) (by kernel_rfl) (by kernel_rfl) (fun _ _ _ h => h) (Or.inr ⟨by rfl, rfl⟩) (by assumption) ?_
          simp only [Act.put, List.setIfInBounds_toArray, List.set_cons_succ, List.set_cons_zero]
          refine wpAnyH_take (i := 14) (oi := Oper.mk (some 27) _ _ _ _ _) (v := .bool false) rfl (by kernel_rfl) (by kernel_rfl) (by kernel_rfl) (fun _ _ _ h => h) (Or.inl ⟨by rfl, ?_⟩) (by assumption) ?_
          · intro wX hSw
            (try dsimp only at hSw)
            go_simp
          simp only [Act.put, List.setIfInBounds_toArray, List.set_cons_succ, List.set_cons_zero]
          refine wpAnyH_take (i := 15) (oi := Oper.mk (some 28) _ _ _ _ _) (v := .bool false) rfl (by kernel_rfl) (by kernel_rfl) (by kernel_rfl) (fun _ _ _ h => h) (Or.inl ⟨by rfl, ?_⟩) (by assumption) ?_
          · intro wX hSw
            (try dsimp only at hSw)
            go_simp
          simp only [Act.put, List.setIfInBounds_toArray, List.set_cons_succ, List.set_cons_zero]
          refine wpAnyH_done (by kernel_rfl) ?_ _
          have HN := hide (W0.out.trans (P1.out.mono W0.out.size))
          clear C0 b0 P1 q0 q1 q2
          go_wp2
          exact ⟨⟨k + 1, _, by omega, rfl, fun _ => A1.out, by go_num, E2, HN⟩, by simp [intOf]; omega⟩
        · obtain ⟨j, hkj⟩ : ∃ j, k = j + 1 := ⟨k - 1, by omega⟩
          obtain ⟨hA, hj, hpv⟩ := HP.out j hkj
          obtain ⟨p0', p1', p2'⟩ := hA j hj
          obtain ⟨p, hp⟩ : ∃ p, p = tokN ts j := ⟨_, rfl⟩
          rw [← hp] at p0' p1' p2' hpv
          have p0 := cell_on BA.out p0'
          have p1 := cell_on BA.out p1'
          have p2 := cell_on BA.out p2'
          have KP : Hid (∀ w', Below WA.heap.size WA w' → (w'.cell? ⟨wr.heap.size, 0, none⟩ = some (.int .i64 g.kind) ∧ w'.cell? ⟨wr.heap.size, 1, none⟩ = some (.int .i64 g.many) ∧ w'.cell? ⟨wr.heap.size, 2, none⟩ = some (.string g.text)) ∧ w'.cell? ⟨b, o + j * 3, none⟩ = some (.int .i64 p.kind) ∧ w'.cell? ⟨b, o + j * 3 + 1, none⟩ = some (.int .i64 p.many) ∧ w'.cell? ⟨b, o + j * 3 + 2, none⟩ = some (.string p.text)) := hide (fun w' hb => by
            have Q' := Q.out.below hb Q.out.lt
            exact ⟨⟨Q'.cell 0, Q'.cell 1, Q'.cell 2⟩, cell_on hb p0, cell_on hb p1, cell_on hb p2⟩)
          have C0 : Hid (∀ X, Hid (Below WA.heap.size WA X) → Calls Tryd.prog 26 #[.agg #[.int .i64 g.kind, .int .i64 g.many, .string g.text]] X fun x w' => x = .returned (.bool true) ∧ Hid (Below WA.heap.size WA w') ∧ (w'.cell? ⟨wr.heap.size, 0, none⟩ = some (.int .i64 g.kind) ∧ w'.cell? ⟨wr.heap.size, 1, none⟩ = some (.int .i64 g.many) ∧ w'.cell? ⟨wr.heap.size, 2, none⟩ = some (.string g.text)) ∧ w'.cell? ⟨b, o + j * 3, none⟩ = some (.int .i64 p.kind) ∧ w'.cell? ⟨b, o + j * 3 + 1, none⟩ = some (.int .i64 p.many) ∧ w'.cell? ⟨b, o + j * 3 + 2, none⟩ = some (.string p.text)) := hide (fun X hX => (may_any g X hzg' (TA.out.below hX.out)).mono fun x w' ⟨h1, h2⟩ => by
            have hb := hX.out.trans (h2.mono hX.out.size)
            rw [hm] at h1
            exact ⟨h1, hb, KP.out w' hb⟩)
          have C1 : Hid (∀ X, Hid (Below WA.heap.size WA X) → Calls Tryd.prog 27 #[.agg #[.int .i64 p.kind, .int .i64 p.many, .string p.text], .agg #[.int .i64 g.kind, .int .i64 g.many, .string g.text]] X fun x w' => x = .returned (.bool (joinT p g)) ∧ Hid (Below WA.heap.size WA w') ∧ (w'.cell? ⟨wr.heap.size, 0, none⟩ = some (.int .i64 g.kind) ∧ w'.cell? ⟨wr.heap.size, 1, none⟩ = some (.int .i64 g.many) ∧ w'.cell? ⟨wr.heap.size, 2, none⟩ = some (.string g.text)) ∧ w'.cell? ⟨b, o + j * 3, none⟩ = some (.int .i64 p.kind) ∧ w'.cell? ⟨b, o + j * 3 + 1, none⟩ = some (.int .i64 p.many) ∧ w'.cell? ⟨b, o + j * 3 + 2, none⟩ = some (.string p.text)) := hide (fun X hX => (join_any p g X).mono fun x w' ⟨h1, h2⟩ => by
            have hb := hX.out.trans (h2.mono hX.out.size)
            exact ⟨h1, hb, KP.out w' hb⟩)
          have E2 : Hid (R = (joinT p g || badT (prevT ts (k + 1)) (ts.drop (k + 1)))) := hide (by rw [E1.out, hm, hpv]; rfl)
          have hk0' : (0 : Int) < (k : Int) := by omega
          have hj0 : (0 : Int) ≤ (j : Int) := by omega
          have hjL : (j : Int) < (L : Int) := by omega
          have hwr : IntKind.i64.wrap ((k : Int) - 1) = (j : Int) := by rw [show (k : Int) - 1 = (j : Int) by omega]; exact IntWalk.i64_in _ (by omega)
          generalize joinT p g = J at *
          clear hm E1 HP HZ hA hj hpv hp p0' p1' p2' KP hkj
          go_wp2_with (simp only [HWA.out])
          have mk0 : True := trivial
          go_region_held3 (fun w' => (w'.cell? ⟨wr.heap.size, 0, none⟩ = some (.int .i64 g.kind) ∧ w'.cell? ⟨wr.heap.size, 1, none⟩ = some (.int .i64 g.many) ∧ w'.cell? ⟨wr.heap.size, 2, none⟩ = some (.string g.text)) ∧ w'.cell? ⟨b, o + j * 3, none⟩ = some (.int .i64 p.kind) ∧ w'.cell? ⟨b, o + j * 3 + 1, none⟩ = some (.int .i64 p.many) ∧ w'.cell? ⟨b, o + j * 3 + 2, none⟩ = some (.string p.text)) (go_keep) (first
            | (clear mk0; go_at_call 26; refine (C0.out _ b0).mono ?_; rintro x z1 ⟨rfl, P1, ⟨t0, t1, t2⟩, t3, t4, t5⟩; have mk1 : True := trivial)
            | (clear mk1; go_at_call 27; refine (C1.out _ P1).mono ?_; rintro x z2 ⟨rfl, P2, ⟨t0, t1, t2⟩, t3, t4, t5⟩; have mk2 : True := trivial))
          have HN := hide (W0.out.trans (P2.out.mono W0.out.size))
          clear C0 C1 b0 P1 P2 mk2 q0 q1 q2 p0 p1 p2 hwr
          cases J
          · have E3 : Hid (badT (prevT ts (k + 1)) (ts.drop (k + 1)) = R) := hide (by rw [E2.out]; rfl)
            clear E2
            by_cases h64 : k ≤ 64
            · obtain ⟨a1, a2, a3⟩ := HS.out h64
              have A1 := hide a1
              clear a1 HS
              go_wp2
              exact ⟨⟨k + 1, _, by omega, rfl, fun _ => A1.out, by go_num, E3, HN⟩, by simp [intOf]; omega⟩
            · clear HS
              go_wp2
              exact ⟨⟨k + 1, _, by omega, rfl, fun h => absurd h (by omega), by go_num, E3, HN⟩, by simp [intOf]; omega⟩
          · have E3 : Hid (C = 131) := hide (by rw [HC.out, E2.out]; rfl)
            clear E2 HS
            go_wp2
            go_ret
            exact ⟨by rw [E3.out]; rfl, HN.out⟩
      · have hm' : mayTok g = false := by cases h : mayTok g with | true => exact absurd h hm | false => rfl
        have E2 : Hid (R = true) := hide (by rw [E1.out, hm']; rfl)
        have E3 : Hid (C = 131) := hide (by rw [HC.out, E2.out]; rfl)
        have C0 : Hid (∀ X, Hid (Below WA.heap.size WA X) → Calls Tryd.prog 26 #[.agg #[.int .i64 g.kind, .int .i64 g.many, .string g.text]] X fun x w' => x = .returned (.bool false) ∧ Hid (Below WA.heap.size WA w') ∧ w'.cell? ⟨wr.heap.size, 0, none⟩ = some (.int .i64 g.kind) ∧ w'.cell? ⟨wr.heap.size, 1, none⟩ = some (.int .i64 g.many) ∧ w'.cell? ⟨wr.heap.size, 2, none⟩ = some (.string g.text)) := hide (fun X hX => (may_any g X hzg' (TA.out.below hX.out)).mono fun x w' ⟨h1, h2⟩ => by
          have hb := hX.out.trans (h2.mono hX.out.size)
          have Q' := Q.out.below hb Q.out.lt
          rw [hm'] at h1
          exact ⟨h1, hb, Q'.cell 0, Q'.cell 1, Q'.cell 2⟩)
        clear hm hm' E1 HP HZ HS E2
        go_wp2_with (simp only [HWA.out])
        have mk0 : True := trivial
        refine wp_region_held_drew (S := (fun w' => w'.cell? ⟨wr.heap.size, 0, none⟩ = some (.int .i64 g.kind) ∧ w'.cell? ⟨wr.heap.size, 1, none⟩ = some (.int .i64 g.many) ∧ w'.cell? ⟨wr.heap.size, 2, none⟩ = some (.string g.text))) (by kernel_rfl) ?_ (fun hHeld => ?_)
        · (try dsimp only)
          go_keep
        refine wpAnyH_take (i := 0) (oi := Oper.mk (some 13) _ _ _ _ _) (v := .agg #[.int .i64 g.kind, .int .i64 g.many, .string g.text]) rfl (by kernel_rfl) (by kernel_rfl) (by kernel_rfl) (fun _ _ _ h => h) (Or.inl ⟨by rfl, ?_⟩) (by assumption) ?_
        · intro wX hSw
          (try dsimp only at hSw)
          go_simp
        simp only [Act.put, List.setIfInBounds_toArray, List.set_cons_succ, List.set_cons_zero]
        refine wpAnyH_ready (rs := [1]) (by kernel_rfl) (by simp) ?_
        refine AllReadyH.cons (o := Oper.mk (some 14) _ _ _ _ _) rfl (fun K hK => ?_) AllReadyH.nil
        go_simp
        go_at_call 26
        refine (C0.out _ b0).mono ?_
        rintro x z1 ⟨rfl, P1, t0, t1, t2⟩
        refine hK.out _ _ ?_ (fun hHeld => ?_)
        · (try dsimp only)
          go_keep
        clear hK K
        refine wpAnyH_take (i := 2) (oi := Oper.mk (some 15) _ _ _ _ _) (v := .bool true) rfl (by kernel_rfl) (by kernel_rfl) (by kernel_rfl) (fun _ _ _ h => h) (Or.inl ⟨by rfl, ?_⟩) (by assumption) ?_
        · intro wX hSw
          (try dsimp only at hSw)
          go_simp
        simp only [Act.put, List.setIfInBounds_toArray, List.set_cons_succ, List.set_cons_zero]
        refine wpAnyH_take (i := 3) (oi := Oper.mk (some 16) _ _ _ _ _) (v := .bool true) rfl (by kernel_rfl) (by kernel_rfl) (by kernel_rfl) (fun _ _ _ h => h) (Or.inl ⟨by rfl, ?_⟩) (by assumption) ?_
        · intro wX hSw
          (try dsimp only at hSw)
          go_simp
        simp only [Act.put, List.setIfInBounds_toArray, List.set_cons_succ, List.set_cons_zero]
        refine wpAnyH_take (i := 4) (oi := Oper.mk (some 17) _ _ _ _ _) (v := undef) rfl (by kernel_rfl) (by kernel_rfl) (by kernel_rfl) (fun _ _ _ h => h) (Or.inr ⟨by rfl, rfl⟩) (by assumption) ?_
        simp only [Act.put, List.setIfInBounds_toArray, List.set_cons_succ, List.set_cons_zero]
        refine wpAnyH_take (i := 5) (oi := Oper.mk (some 18) _ _ _ _ _) (v := undef) rfl (by kernel_rfl) (by kernel_rfl) (by kernel_rfl) (fun _ _ _ h => h) (Or.inr ⟨by rfl, rfl⟩) (by assumption) ?_
        simp only [Act.put, List.setIfInBounds_toArray, List.set_cons_succ, List.set_cons_zero]
        refine wpAnyH_take (i := 6) (oi := Oper.mk (some 19) _ _ _ _ _) (v := undef) rfl (by kernel_rfl) (by kernel_rfl) (by kernel_rfl) (fun _ _ _ h => h) (Or.inr ⟨by rfl, rfl⟩) (by assumption) ?_
        simp only [Act.put, List.setIfInBounds_toArray, List.set_cons_succ, List.set_cons_zero]
        refine wpAnyH_take (i := 7) (oi := Oper.mk (some 20) _ _ _ _ _) (v := undef) rfl (by kernel_rfl) (by kernel_rfl) (by kernel_rfl) (fun _ _ _ h => h) (Or.inr ⟨by rfl, rfl⟩) (by assumption) ?_
        simp only [Act.put, List.setIfInBounds_toArray, List.set_cons_succ, List.set_cons_zero]
        refine wpAnyH_take (i := 8) (oi := Oper.mk (some 21) _ _ _ _ _) (v := undef) rfl (by kernel_rfl) (by kernel_rfl) (by kernel_rfl) (fun _ _ _ h => h) (Or.inr ⟨by rfl, rfl⟩) (by assumption) ?_
        simp only [Act.put, List.setIfInBounds_toArray, List.set_cons_succ, List.set_cons_zero]
        refine wpAnyH_take (i := 9) (oi := Oper.mk (some 22) _ _ _ _ _) (v := undef) rfl (by kernel_rfl) (by kernel_rfl) (by kernel_rfl) (fun _ _ _ h => h) (Or.inr ⟨by rfl, rfl⟩) (by assumption) ?_
        simp only [Act.put, List.setIfInBounds_toArray, List.set_cons_succ, List.set_cons_zero]
        refine wpAnyH_take (i := 10) (oi := Oper.mk (some 23) _ _ _ _ _) (v := undef) rfl (by kernel_rfl) (by kernel_rfl) (by kernel_rfl) (fun _ _ _ h => h) (Or.inr ⟨by rfl, rfl⟩) (by assumption) ?_
        simp only [Act.put, List.setIfInBounds_toArray, List.set_cons_succ, List.set_cons_zero]
        refine wpAnyH_take (i := 11) (oi := Oper.mk (some 24) _ _ _ _ _) (v := undef) rfl (by kernel_rfl) (by kernel_rfl) (by kernel_rfl) (fun _ _ _ h => h) (Or.inr ⟨by rfl, rfl⟩) (by assumption) ?_
        simp only [Act.put, List.setIfInBounds_toArray, List.set_cons_succ, List.set_cons_zero]
        refine wpAnyH_take (i := 12) (oi := Oper.mk (some 25) _ _ _ _ _) (v := undef) rfl (by kernel_rfl) (by kernel_rfl) (by kernel_rfl) (fun _ _ _ h => h) (Or.inr ⟨by rfl, rfl⟩) (by assumption) ?_
        simp only [Act.put, List.setIfInBounds_toArray, List.set_cons_succ, List.set_cons_zero]
        refine wpAnyH_take (i := 13) (oi := Oper.mk (some 26) _ _ _ _ _) (v := undef) rfl (by kernel_rfl) (by kernel_rfl) (by kernel_rfl) (fun _ _ _ h => h) (Or.inr ⟨by rfl, rfl⟩) (by assumption) ?_
        simp only [Act.put, List.setIfInBounds_toArray, List.set_cons_succ, List.set_cons_zero]
        refine wpAnyH_take (i := 14) (oi := Oper.mk (some 27) _ _ _ _ _) (v := undef) rfl (by kernel_rfl) (by kernel_rfl) (by kernel_rfl) (fun _ _ _ h => h) (Or.inr ⟨by rfl, rfl⟩) (by assumption) ?_
        simp only [Act.put, List.setIfInBounds_toArray, List.set_cons_succ, List.set_cons_zero]
        refine wpAnyH_take (i := 15) (oi := Oper.mk (some 28) _ _ _ _ _) (v := .bool true) rfl (by kernel_rfl) (by kernel_rfl) (by kernel_rfl) (fun _ _ _ h => h) (Or.inl ⟨by rfl, ?_⟩) (by assumption) ?_
        · intro wX hSw
          (try dsimp only at hSw)
          go_simp
        simp only [Act.put, List.setIfInBounds_toArray, List.set_cons_succ, List.set_cons_zero]
        refine wpAnyH_done (by kernel_rfl) ?_ _
        have HN := hide (W0.out.trans (P1.out.mono W0.out.size))
        clear C0 b0 P1 q0 q1 q2
        go_wp2
        go_ret
        exact ⟨by rw [E3.out]; rfl, HN.out⟩
    · obtain rfl : k = L := by omega
      have hlt' : ¬ (k : Int) < (k : Int) := by omega
      have ER : Hid (R = false) := hide (by rw [← HF.out, List.drop_eq_nil_of_le (by rw [← HL.out]; exact Nat.le_refl _)]; rfl)
      have EC : Hid (C = if longT ts then 132 else 0) := hide (by rw [HC.out, ER.out]; rfl)
      by_cases h64 : 64 < k
      · have E3 : Hid (C = 132) := hide (by rw [EC.out]; unfold longT; rw [decide_eq_true (by rw [← HL.out]; exact h64)]; rfl)
        have h64' : (64 : Int) < (k : Int) := by omega
        clear HF hlt hzk EC
        go_wp2
        go_ret
        exact ⟨by rw [E3.out]; rfl, HW.out⟩
      · have hz1 := hzk (by omega)
        rw [List.take_of_length_le (by rw [← HL.out]; exact Nat.le_refl _)] at hz1
        have h64' : ¬ (64 : Int) < (k : Int) := by omega
        by_cases hs : 64 < sizeT ts
        · have E3 : Hid (C = 132) := hide (by rw [EC.out]; unfold longT; rw [decide_eq_true hs, Bool.or_true]; rfl)
          have hs' : (64 : Int) < z := by omega
          clear HF hlt hzk EC hz1 hs
          go_wp2
          go_ret
          exact ⟨by rw [E3.out]; rfl, HW.out⟩
        · have E3 : Hid (C = 0) := hide (by rw [EC.out]; unfold longT; rw [decide_eq_false hs, decide_eq_false (by rw [← HL.out]; exact h64)]; rfl)
          have hs' : ¬ (64 : Int) < z := by omega
          clear HF hlt hzk EC hz1 hs
          go_wp2
          go_ret
          exact ⟨by rw [E3.out]; rfl, HW.out⟩

set_option maxHeartbeats 1000000 in
theorem Check_nil (ao : Option Addr) (cap : Nat) (w : World) : Calls Tryd.prog 13 #[.slice ao 0 cap] w fun e w' => e = .returned (.int .i64 0) ∧ Below w.heap.size w w' := by
  go_enter Tryd.func13, Tryd.ntmps13
  go_wp2
  go_loopw [3, 8] (fun x p wr => x = .int .i64 0 ∧ p = .int .i64 0 ∧ wr = w) (fun _ p _ => 0)
  case atStart => exact ⟨rfl, rfl, rfl⟩
  case round =>
    obtain ⟨rfl, rfl, rfl⟩ := hrel
    go_wp2
    go_ret
    exact ⟨rfl, Below.refl _ _⟩

theorem Check_any {w : World} {v : Value} {ts : List Tok} (h : TSl w v ts) (hl : ts.length ≤ 140737488355328) (hz : SzT ts) (hT : U8 w) : Calls Tryd.prog 13 #[v] w fun e w' => e = .returned (.int .i64 (chkT ts : Int)) ∧ Below w.heap.size w w' := by
  obtain ⟨ao, cap, rfl, h2, h3⟩ := h
  rcases h3 with rfl | ⟨b, o, rfl, h3⟩
  · exact Check_nil ao cap w
  · exact Check_at b o cap ts w hl h2 hz hT h3

end Go.Proofs.YtobcbffakldfcaaDoor

namespace Go.Proofs.YtobcbffakldfcaaDoor
open Go.RowKit

theorem hasT_drop (ts : List Tok) (kd : Int) (i : Nat) (h : i < ts.length) : hasT (ts.drop i) kd = (decide ((tokN ts i).kind = kd) || hasT (ts.drop (i + 1)) kd) := by
  rw [tokN_drop h]; rfl

set_option maxHeartbeats 1000000 in
theorem has1_any (t : Tok) (g : Nat) (kd : Int) (w : World) (hg : w.cell? ⟨g, 0, none⟩ = some (.int .i64 kd)) : Calls Tryd.prog 30 #[tokV t, .pointer (some ⟨g, 0, none⟩)] w fun e w' => e = .returned (.bool (decide (t.kind = kd))) ∧ Below w.heap.size w w' := by
  obtain ⟨k, n, x⟩ := t
  unfold tokV
  simp only
  have c := cell_on ((Below.refl w.heap.size w).alloc (Nat.le_refl _) (.cells #[.int .i64 k, .int .i64 n, .string x] 32)) hg
  have AL : Hid (∀ o, Below w.heap.size w (w.alloc o)) := hide fun o => (Below.refl _ _).alloc (Nat.le_refl _) _
  by_cases h : k = kd
  · have h' : (k == kd) = true := beq_iff_eq.2 h
    rw [decide_eq_true h]
    clear hg h
    go_enter Tryd.func30, Tryd.ntmps30
    go_wp2
    go_ret
    exact ⟨rfl, AL.out _⟩
  · have h' : (k == kd) = false := beq_eq_false_iff_ne.2 h
    rw [decide_eq_false h]
    clear hg h
    go_enter Tryd.func30, Tryd.ntmps30
    go_wp2
    go_ret
    exact ⟨rfl, AL.out _⟩

set_option maxRecDepth 100000 in
set_option maxHeartbeats 2000000 in
theorem indexF_at (b o cap g : Nat) (kd : Int) (ts : List Tok) (w : World) (hl : ts.length ≤ 140737488355328) (hc : ts.length ≤ cap) (hg : w.cell? ⟨g, 0, none⟩ = some (.int .i64 kd)) (h3 : TkAt w b o ts) :
    Calls Tryd.prog 52 #[.slice (some ⟨b, o, none⟩) ts.length cap, .func (.func 30) #[] #[.pointer (some ⟨g, 0, none⟩)]] w fun e w' => (∃ z : Int, e = .returned (.int .i64 z) ∧ decide (0 ≤ z) = hasT ts kd) ∧ Below w.heap.size w w' := by
  have H3 := hide h3
  have HG := hide hg
  clear h3 hg
  obtain ⟨L, hL⟩ : ∃ L, L = ts.length := ⟨_, rfl⟩
  rw [← hL] at hl hc ⊢
  have HL := hide hL
  clear hL
  obtain ⟨R, hR⟩ : ∃ R, R = hasT ts kd := ⟨_, rfl⟩
  rw [← hR]
  have HR := hide hR
  clear hR
  go_enter Tryd.func52, Tryd.ntmps52
  go_wp2
  go_loopw [8] (fun q wr => ∃ k : Nat, k ≤ L ∧ q = .int .i64 (k : Int) ∧ Hid (hasT (ts.drop k) kd = R) ∧ Hid (Below w.heap.size w wr)) (fun q _ => L - (intOf q).toNat)
  case atStart => exact ⟨0, Nat.zero_le _, rfl, hide (by rw [HR.out, List.drop_zero]), Below.refl _ _⟩
  case round =>
    obtain ⟨k, hk, rfl, HF, HW⟩ := hrel
    by_cases hlt : k < L
    · have hlt' : (k : Int) < (L : Int) := by omega
      have hkt : k < ts.length := by rw [← HL.out]; exact hlt
      obtain ⟨c0, c1, c2⟩ := (H3.out.below HW.out) k hkt
      have e1 := hasT_drop ts kd k hkt
      rw [HF.out] at e1
      have E1 := hide e1
      have HC := hide (has1_any (tokN ts k) g kd wr (cell_on HW.out HG.out))
      generalize tokN ts k = t at *
      unfold tokV at HC
      clear HF e1 hkt
      by_cases hm : t.kind = kd
      · rw [decide_eq_true hm] at HC E1
        have E2 : Hid (R = true) := hide (by rw [E1.out]; rfl)
        clear hm E1
        go_wp2_with fail
        refine HC.out.mono ?_
        rintro e w1 ⟨rfl, hb⟩
        have HB := hide (HW.out.trans (hb.mono HW.out.size))
        clear hb HC
        go_wp2
        go_ret
        exact ⟨⟨_, rfl, by rw [E2.out]; exact decide_eq_true (by omega)⟩, HB.out⟩
      · rw [decide_eq_false hm] at HC E1
        have E2 : Hid (hasT (ts.drop (k + 1)) kd = R) := hide (by rw [E1.out]; rfl)
        clear hm E1
        go_wp2_with fail
        refine HC.out.mono ?_
        rintro e w1 ⟨rfl, hb⟩
        have HB := hide (HW.out.trans (hb.mono HW.out.size))
        clear hb HC
        go_wp2
        exact ⟨⟨k + 1, by omega, by go_num, E2, HB⟩, by simp [intOf]; omega⟩
    · obtain rfl : k = L := by omega
      have hlt' : ¬ (k : Int) < (k : Int) := by omega
      have ER : Hid (R = false) := hide (by rw [← HF.out, List.drop_eq_nil_of_le (by rw [← HL.out]; exact Nat.le_refl _)]; rfl)
      clear HF hlt
      go_wp2
      go_ret
      exact ⟨⟨_, rfl, by rw [ER.out]; rfl⟩, HW.out⟩

set_option maxHeartbeats 1000000 in
theorem indexF_nil (ao : Option Addr) (cap : Nat) (v : Value) (w : World) : Calls Tryd.prog 52 #[.slice ao 0 cap, v] w fun e w' => e = .returned (.int .i64 (-1)) ∧ Below w.heap.size w w' := by
  go_enter Tryd.func52, Tryd.ntmps52
  go_wp2
  go_loopw [8] (fun p wr => p = .int .i64 0 ∧ wr = w) (fun p _ => 0)
  case atStart => exact ⟨rfl, rfl⟩
  case round =>
    obtain ⟨rfl, rfl⟩ := hrel
    go_wp2
    go_ret
    exact ⟨rfl, Below.refl _ _⟩

theorem indexF_any {w : World} {v : Value} {ts : List Tok} (g : Nat) (kd : Int) (h : TSl w v ts) (hl : ts.length ≤ 140737488355328) (hg : w.cell? ⟨g, 0, none⟩ = some (.int .i64 kd)) :
    Calls Tryd.prog 52 #[v, .func (.func 30) #[] #[.pointer (some ⟨g, 0, none⟩)]] w fun e w' => (∃ z : Int, e = .returned (.int .i64 z) ∧ decide (0 ≤ z) = hasT ts kd) ∧ Below w.heap.size w w' := by
  obtain ⟨ao, cap, rfl, h2, h3⟩ := h
  rcases h3 with rfl | ⟨b, o, rfl, h3⟩
  · refine (indexF_nil ao cap _ w).mono ?_
    rintro e w' ⟨rfl, hb⟩
    exact ⟨⟨-1, rfl, rfl⟩, hb⟩
  · exact indexF_at b o cap g kd ts w hl h2 hg h3

set_option maxHeartbeats 1000000 in
theorem containsF_any {w : World} {v : Value} {ts : List Tok} (g : Nat) (kd : Int) (h : TSl w v ts) (hl : ts.length ≤ 140737488355328) (hg : w.cell? ⟨g, 0, none⟩ = some (.int .i64 kd)) :
    Calls Tryd.prog 29 #[v, .func (.func 30) #[] #[.pointer (some ⟨g, 0, none⟩)]] w fun e w' => e = .returned (.bool (hasT ts kd)) ∧ Below w.heap.size w w' := by
  have HC := hide (indexF_any g kd h hl hg)
  clear h hg
  go_enter Tryd.func29, Tryd.ntmps29
  go_wp2_with fail
  refine HC.out.mono ?_
  rintro e w1 ⟨⟨z, rfl, hz⟩, hb⟩
  have HB := hide hb
  have HZ := hide hz
  clear hb HC hz
  go_wp2
  go_ret
  exact ⟨by rw [← HZ.out]; rfl, HB.out⟩

set_option maxHeartbeats 1000000 in
theorem Has_any {w : World} {v : Value} {ts : List Tok} (kd : Int) (h : TSl w v ts) (hl : ts.length ≤ 140737488355328) :
    Calls Tryd.prog 16 #[v, .int .i64 kd] w fun e w' => e = .returned (.bool (hasT ts kd)) ∧ Below w.heap.size w w' := by
  have BA : Hid (Below w.heap.size w (w.alloc (.cells #[.int .i64 kd] 3))) := (Below.refl _ _).alloc (Nat.le_refl _) _
  have Q := hide (Blk.newAt w w.heap.size rfl #[.int .i64 kd] 3)
  have HC := hide (containsF_any w.heap.size kd (h.below BA.out) hl (Q.out.cell 0))
  clear h Q
  go_enter Tryd.func16, Tryd.ntmps16
  go_wp2_with fail
  refine HC.out.mono ?_
  rintro e w1 ⟨rfl, hb⟩
  have HB := hide (BA.out.trans (hb.mono BA.out.size))
  clear hb HC
  go_wp2
  go_ret
  exact ⟨rfl, HB.out⟩

theorem infoT : (Tryd.prog.info? 32).map (fun i => (i.zero, i.size, i.bytes)) = some (some (.agg #[.int .i64 0, .int .i64 0, .string ⟨#[]⟩]), 3, 32) := by kernel_rfl
def cellsT (ts : List Tok) : List Value := ts.flatMap fun t => [.int .i64 t.kind, .int .i64 t.many, .string t.text]
theorem cellsT_len (ts : List Tok) : (cellsT ts).length = ts.length * 3 := by
  induction ts with
  | nil => rfl
  | cons f r ih =>
    have : cellsT (f :: r) = [.int .i64 f.kind, .int .i64 f.many, .string f.text] ++ cellsT r := rfl
    rw [this, List.length_append, ih, List.length_cons]
    simp; omega
theorem cellsT_snoc (ts : List Tok) (t : Tok) : cellsT (ts ++ [t]) = cellsT ts ++ [.int .i64 t.kind, .int .i64 t.many, .string t.text] := by
  unfold cellsT; rw [List.flatMap_append]; rfl
theorem cellsT_app (a b : List Tok) : cellsT (a ++ b) = cellsT a ++ cellsT b := by
  unfold cellsT; rw [List.flatMap_append]

end Go.Proofs.YtobcbffakldfcaaDoor

namespace Go.Proofs.YtobcbffakldfcaaDoor
open Go.RowKit

theorem aft_lt (st : Nat) (r : List UInt8) : aft st r ≤ 3 := by
  unfold aft
  repeat' split
  all_goals omega

theorem eqTL (a : ByteArray) (l : List UInt8) : (a.toList == l) = decide (bys a = l) := by
  rw [sl]
  by_cases h : bys a = l
  · rw [decide_eq_true h]
    show (bys a == l) = true
    rw [h]; simp
  · rw [decide_eq_false h]
    show (bys a == l) = false
    exact beq_eq_false_iff_ne.2 h
theorem eqTR (a : ByteArray) (l : List UInt8) : (l == a.toList) = decide (bys a = l) := by
  rw [← eqTL]
  by_cases h : a.toList = l
  · rw [h]
  · rw [beq_eq_false_iff_ne.2 h, beq_eq_false_iff_ne.2 (Ne.symm h)]

set_option maxRecDepth 100000 in
set_option maxHeartbeats 2000000 in
theorem after_any (st : Nat) (r : ByteArray) (w : World) (hst : st ≤ 3) (hT : Wd w) : Calls Tryd.prog 32 #[.int .i64 (st : Int), .string r] w fun e w' => e = .returned (.int .i64 (aft st (bys r) : Int)) ∧ w = w' := by
  obtain ⟨_, _, _, _, _, _, _, m0, m1, m2, m3, m4, m5, m6, m7, _⟩ := hT
  have ee := eqTL r [39]
  by_cases h : bys r = [39]
  · rw [decide_eq_true h] at ee
    have hs : st = 0 ∨ st = 1 ∨ st = 2 ∨ st = 3 := by omega
    rcases hs with rfl | rfl | rfl | rfl
    all_goals
      have E1 := hide (show ∀ z, aft z (bys r) = if z = 0 then 1 else if z = 1 then 0 else if z = 2 then 3 else 2 from fun z => by unfold aft; rw [if_pos h])
      rw [E1.out]
      clear h hst
      go_enter Tryd.func32, Tryd.ntmps32
      go_wp2
      go_ret
      exact ⟨rfl, rfl⟩
  · rw [decide_eq_false h] at ee
    have hs : st = 0 ∨ st = 1 ∨ st = 2 ∨ st = 3 := by omega
    rcases hs with rfl | rfl | rfl | rfl
    all_goals
      have E1 := hide (show ∀ z, aft z (bys r) = if z = 0 then 0 else if z = 1 then 2 else if z = 2 then 2 else 0 from fun z => by unfold aft; rw [if_neg h])
      rw [E1.out]
      clear h hst
      go_enter Tryd.func32, Tryd.ntmps32
      go_wp2
      go_ret
      exact ⟨rfl, rfl⟩

theorem occ_mem {L t : List UInt8} {a : UInt8} {i : Nat} (h : Lib.occAt L (a :: t) i = true) : a ∈ L := by
  unfold Lib.occAt at h
  cases hd : L.drop i with
  | nil => rw [hd] at h; simp at h
  | cons b l =>
    rw [hd] at h
    simp only [List.isPrefixOf, Bool.and_eq_true, beq_iff_eq] at h
    rw [h.1]
    exact List.mem_of_mem_drop (i := i) (by rw [hd]; exact List.mem_cons_self)
theorem cont_iff (L t : List UInt8) : Lib.contains L t = true ↔ ∃ i, i ≤ L.length ∧ Lib.occAt L t i = true := by
  unfold Lib.contains
  rw [decide_eq_true_iff]
  rcases Lib.index_spec L t with ⟨h1, h2⟩ | ⟨i, h1, h2, h3, _⟩
  · rw [h1]
    refine ⟨fun h => absurd h (by omega), fun ⟨i, hi, h⟩ => ?_⟩
    rw [h2 i hi] at h; cases h
  · rw [h1]
    exact ⟨fun _ => ⟨i, h2, h3⟩, fun _ => by omega⟩
theorem letters_low : ∀ a ∈ lettersL, a.toNat < 128 := by decide
theorem rune_low {r : List UInt8} (h : IsR r) (hl : byB r 0 < 128) : r.length = 1 := by
  rw [← h.1]
  unfold runeL runeN
  rw [if_neg h.len, if_pos hl]
theorem contains_rune (r : List UInt8) (h : IsR r) : Lib.contains lettersL r = letB r := by
  rw [Bool.eq_iff_iff, cont_iff]
  match r, h with
  | [], h => exact absurd rfl h.2
  | [c], _ =>
    show _ ↔ lettersL.contains c = true
    rw [List.contains_iff_mem]
    refine ⟨fun ⟨i, _, h⟩ => occ_mem h, fun hm => ?_⟩
    obtain ⟨i, hi, he⟩ := List.getElem_of_mem hm
    refine ⟨i, by omega, ?_⟩
    unfold Lib.occAt
    rw [List.drop_eq_getElem_cons hi, he]
    simp [List.isPrefixOf]
  | a :: b :: t, h =>
    refine ⟨fun ⟨i, _, ho⟩ => ?_, fun h => by cases h⟩
    have := rune_low h (letters_low a (occ_mem ho))
    simp at this

set_option maxHeartbeats 1000000 in
theorem isLetter_any (r : ByteArray) (w : World) (hr : IsR (bys r)) (hT : Wd w) : Calls Tryd.prog 34 #[.string r] w fun e w' => e = .returned (.bool (letB (bys r))) ∧ w = w' := by
  obtain ⟨m, hm⟩ := hT.ml
  have HV := hide (Tryd.strings_Contains ⟨#[48, 49, 50, 51, 52, 53, 54, 55, 56, 57, 35, 64, 44, 46, 59, 42]⟩ r m w (by decide) hm)
  have HE := hide (contains_rune (bys r) hr)
  clear hT hm
  go_enter Tryd.func34, Tryd.ntmps34
  go_wp2_with fail
  refine HV.out.mono ?_
  rintro e w1 ⟨rfl, rfl⟩
  go_wp2
  go_ret
  exact ⟨congrArg (fun b => Ending.returned (Value.bool b)) HE.out, rfl⟩

theorem kindB_of (r : List UInt8) (k : Nat) (hk : k ≤ 5) (h : r = sgnL (k : Int)) : kindB r = k := by
  subst h
  have : k = 0 ∨ k = 1 ∨ k = 2 ∨ k = 3 ∨ k = 4 ∨ k = 5 := by omega
  rcases this with rfl | rfl | rfl | rfl | rfl | rfl <;> decide
theorem kindB_none (r : List UInt8) (h : ∀ j : Nat, j < 6 → r ≠ sgnL (j : Int)) : kindB r = 0 := by
  unfold kindB
  rw [if_neg (show ¬ r = [45] from h 1 (by omega)), if_neg (show ¬ r = [43] from h 2 (by omega)), if_neg (show ¬ r = [37] from h 3 (by omega)), if_neg (show ¬ r = [226, 128, 176] from h 4 (by omega)), if_neg (show ¬ r = [194, 164] from h 5 (by omega))]

set_option maxRecDepth 100000 in
set_option maxHeartbeats 4000000 in
theorem kindOf_any (r : ByteArray) (w : World) (hT : Wd w) : Calls Tryd.prog 56 #[.string r] w fun e w' => e = .returned (.int .i64 (kindB (bys r) : Int)) ∧ w = w' := by
  obtain ⟨_, s0, s1, s2, s3, s4, s5, _, _, _, _, _, _, _, _, _⟩ := hT
  have KF := hide (kindB_of (bys r))
  have KN := hide (kindB_none (bys r))
  have e0 := hide (eqTR r [])
  have e1 := hide (eqTR r [45])
  have e2 := hide (eqTR r [43])
  have e3 := hide (eqTR r [37])
  have e4 := hide (eqTR r [226, 128, 176])
  have e5 := hide (eqTR r [194, 164])
  go_enter Tryd.func56, Tryd.ntmps56
  go_wp2
  go_loopw [6] (fun x wr => ∃ k : Nat, k ≤ 6 ∧ x = .int .i64 (k : Int) ∧ Hid (∀ j : Nat, j < k → bys r ≠ sgnL (j : Int)) ∧ w = wr) (fun x _ => 6 - (intOf x).toNat)
  case atStart => exact ⟨0, by omega, rfl, hide (fun j hj => absurd hj (by omega)), rfl⟩
  case round =>
    obtain ⟨k, hk, rfl, HF, rfl⟩ := hrel
    have hc : k = 0 ∨ k = 1 ∨ k = 2 ∨ k = 3 ∨ k = 4 ∨ k = 5 ∨ k = 6 := by omega
    clear hk
    rcases hc with rfl | rfl | rfl | rfl | rfl | rfl | rfl
    · rw [show ((0 : Nat) : Int) = 0 from rfl]
      have hix : (Instr.index 50 (.agg #[.string ⟨#[]⟩, .string ⟨#[45]⟩, .string ⟨#[43]⟩, .string ⟨#[37]⟩, .string ⟨#[226, 128, 176]⟩, .string ⟨#[194, 164]⟩]) (.int .i64 0)).run Tryd.prog w = .ok (.string ⟨#[]⟩) w := by kernel_rfl
      by_cases h : bys r = []
      · have ee := e0.out
        rw [decide_eq_true h] at ee
        have EK := hide (KF.out 0 (by omega) h)
        clear e0 e1 e2 e3 e4 e5 h HF KN KF
        go_wp2
        go_ret
        exact ⟨by rw [EK.out]; rfl, rfl⟩
      · have ee := e0.out
        rw [decide_eq_false h] at ee
        have HF' : Hid (∀ j : Nat, j < 1 → bys r ≠ sgnL (j : Int)) := hide (fun j hj => by
          rcases Nat.lt_or_ge j 0 with h1 | h1
          · exact HF.out j h1
          · have : j = 0 := by omega
            subst this
            exact h)
        clear e0 e1 e2 e3 e4 e5 h HF KN KF
        go_wp2
        exact ⟨⟨1, by omega, by go_num, HF', trivial⟩, by simp [intOf]⟩
    · rw [show ((1 : Nat) : Int) = 1 from rfl]
      have hix : (Instr.index 50 (.agg #[.string ⟨#[]⟩, .string ⟨#[45]⟩, .string ⟨#[43]⟩, .string ⟨#[37]⟩, .string ⟨#[226, 128, 176]⟩, .string ⟨#[194, 164]⟩]) (.int .i64 1)).run Tryd.prog w = .ok (.string ⟨#[45]⟩) w := by kernel_rfl
      by_cases h : bys r = [45]
      · have ee := e1.out
        rw [decide_eq_true h] at ee
        have EK := hide (KF.out 1 (by omega) h)
        clear e0 e1 e2 e3 e4 e5 h HF KN KF
        go_wp2
        go_ret
        exact ⟨by rw [EK.out]; rfl, rfl⟩
      · have ee := e1.out
        rw [decide_eq_false h] at ee
        have HF' : Hid (∀ j : Nat, j < 2 → bys r ≠ sgnL (j : Int)) := hide (fun j hj => by
          rcases Nat.lt_or_ge j 1 with h1 | h1
          · exact HF.out j h1
          · have : j = 1 := by omega
            subst this
            exact h)
        clear e0 e1 e2 e3 e4 e5 h HF KN KF
        go_wp2
        exact ⟨⟨2, by omega, by go_num, HF', trivial⟩, by simp [intOf]⟩
    · rw [show ((2 : Nat) : Int) = 2 from rfl]
      have hix : (Instr.index 50 (.agg #[.string ⟨#[]⟩, .string ⟨#[45]⟩, .string ⟨#[43]⟩, .string ⟨#[37]⟩, .string ⟨#[226, 128, 176]⟩, .string ⟨#[194, 164]⟩]) (.int .i64 2)).run Tryd.prog w = .ok (.string ⟨#[43]⟩) w := by kernel_rfl
      by_cases h : bys r = [43]
      · have ee := e2.out
        rw [decide_eq_true h] at ee
        have EK := hide (KF.out 2 (by omega) h)
        clear e0 e1 e2 e3 e4 e5 h HF KN KF
        go_wp2
        go_ret
        exact ⟨by rw [EK.out]; rfl, rfl⟩
      · have ee := e2.out
        rw [decide_eq_false h] at ee
        have HF' : Hid (∀ j : Nat, j < 3 → bys r ≠ sgnL (j : Int)) := hide (fun j hj => by
          rcases Nat.lt_or_ge j 2 with h1 | h1
          · exact HF.out j h1
          · have : j = 2 := by omega
            subst this
            exact h)
        clear e0 e1 e2 e3 e4 e5 h HF KN KF
        go_wp2
        exact ⟨⟨3, by omega, by go_num, HF', trivial⟩, by simp [intOf]⟩
    · rw [show ((3 : Nat) : Int) = 3 from rfl]
      have hix : (Instr.index 50 (.agg #[.string ⟨#[]⟩, .string ⟨#[45]⟩, .string ⟨#[43]⟩, .string ⟨#[37]⟩, .string ⟨#[226, 128, 176]⟩, .string ⟨#[194, 164]⟩]) (.int .i64 3)).run Tryd.prog w = .ok (.string ⟨#[37]⟩) w := by kernel_rfl
      by_cases h : bys r = [37]
      · have ee := e3.out
        rw [decide_eq_true h] at ee
        have EK := hide (KF.out 3 (by omega) h)
        clear e0 e1 e2 e3 e4 e5 h HF KN KF
        go_wp2
        go_ret
        exact ⟨by rw [EK.out]; rfl, rfl⟩
      · have ee := e3.out
        rw [decide_eq_false h] at ee
        have HF' : Hid (∀ j : Nat, j < 4 → bys r ≠ sgnL (j : Int)) := hide (fun j hj => by
          rcases Nat.lt_or_ge j 3 with h1 | h1
          · exact HF.out j h1
          · have : j = 3 := by omega
            subst this
            exact h)
        clear e0 e1 e2 e3 e4 e5 h HF KN KF
        go_wp2
        exact ⟨⟨4, by omega, by go_num, HF', trivial⟩, by simp [intOf]⟩
    · rw [show ((4 : Nat) : Int) = 4 from rfl]
      have hix : (Instr.index 50 (.agg #[.string ⟨#[]⟩, .string ⟨#[45]⟩, .string ⟨#[43]⟩, .string ⟨#[37]⟩, .string ⟨#[226, 128, 176]⟩, .string ⟨#[194, 164]⟩]) (.int .i64 4)).run Tryd.prog w = .ok (.string ⟨#[226, 128, 176]⟩) w := by kernel_rfl
      by_cases h : bys r = [226, 128, 176]
      · have ee := e4.out
        rw [decide_eq_true h] at ee
        have EK := hide (KF.out 4 (by omega) h)
        clear e0 e1 e2 e3 e4 e5 h HF KN KF
        go_wp2
        go_ret
        exact ⟨by rw [EK.out]; rfl, rfl⟩
      · have ee := e4.out
        rw [decide_eq_false h] at ee
        have HF' : Hid (∀ j : Nat, j < 5 → bys r ≠ sgnL (j : Int)) := hide (fun j hj => by
          rcases Nat.lt_or_ge j 4 with h1 | h1
          · exact HF.out j h1
          · have : j = 4 := by omega
            subst this
            exact h)
        clear e0 e1 e2 e3 e4 e5 h HF KN KF
        go_wp2
        exact ⟨⟨5, by omega, by go_num, HF', trivial⟩, by simp [intOf]⟩
    · rw [show ((5 : Nat) : Int) = 5 from rfl]
      have hix : (Instr.index 50 (.agg #[.string ⟨#[]⟩, .string ⟨#[45]⟩, .string ⟨#[43]⟩, .string ⟨#[37]⟩, .string ⟨#[226, 128, 176]⟩, .string ⟨#[194, 164]⟩]) (.int .i64 5)).run Tryd.prog w = .ok (.string ⟨#[194, 164]⟩) w := by kernel_rfl
      by_cases h : bys r = [194, 164]
      · have ee := e5.out
        rw [decide_eq_true h] at ee
        have EK := hide (KF.out 5 (by omega) h)
        clear e0 e1 e2 e3 e4 e5 h HF KN KF
        go_wp2
        go_ret
        exact ⟨by rw [EK.out]; rfl, rfl⟩
      · have ee := e5.out
        rw [decide_eq_false h] at ee
        have HF' : Hid (∀ j : Nat, j < 6 → bys r ≠ sgnL (j : Int)) := hide (fun j hj => by
          rcases Nat.lt_or_ge j 5 with h1 | h1
          · exact HF.out j h1
          · have : j = 5 := by omega
            subst this
            exact h)
        clear e0 e1 e2 e3 e4 e5 h HF KN KF
        go_wp2
        exact ⟨⟨6, by omega, by go_num, HF', trivial⟩, by simp [intOf]⟩
    · rw [show ((6 : Nat) : Int) = 6 from rfl]
      have EK := hide (KN.out HF.out)
      clear e0 e1 e2 e3 e4 e5 HF KN KF
      go_wp2
      go_ret
      exact ⟨by rw [EK.out]; rfl, rfl⟩

theorem Blk.put3T {w : World} {b : Nat} {t : TypeId} {x0 x1 x2 : Value} (h : Blk w b #[x0, x1, x2] t) (y0 y1 y2 : Value) : Blk (((w.setCell ⟨b, 0, none⟩ y0).setCell ⟨b, 1, none⟩ y1).setCell ⟨b, 2, none⟩ y2) b #[y0, y1, y2] t := by
  unfold Blk at *
  simp only [World.setCell, Array.getElem?_modify, if_true, h, Option.map_some]
  rfl
theorem results_tok {fn : Func} {a : Tmp} (h : fn.results = #[.cell a 32]) (tmps : Array Value) (H : Nat) (x0 x1 x2 : Value) (w : World) (ht : tmps.getD a undef = .pointer (some ⟨H, 0, none⟩)) (hp : Blk w H #[x0, x1, x2] 32) :
    (results fn tmps).run Tryd.prog w = .ok (.agg #[x0, x1, x2]) w := by
  have c0 := hp.cell 0
  have c1 := hp.cell 1
  have c2 := hp.cell 2
  simp at c0 c1 c2
  rw [Array.getD_eq_getD_getElem?] at ht
  simp [results, h, ht, go_sem, c0, c1, c2]
theorem below_putT {w W : World} {H : Nat} (h : Below w.heap.size w W) (hH : w.heap.size ≤ H) (y0 y1 y2 : Value) : Below w.heap.size w (((W.setCell ⟨H, 0, none⟩ y0).setCell ⟨H, 1, none⟩ y1).setCell ⟨H, 2, none⟩ y2) :=
  ((h.setCell hH _).setCell hH _).setCell hH _

set_option maxRecDepth 100000 in
set_option maxHeartbeats 4000000 in
theorem plain_any (r : ByteArray) (w : World) (hT : Wd w) : Calls Tryd.prog 35 #[.string r] w fun e w' => e = .returned (tokV (plnT (bys r))) ∧ Below w.heap.size w w' := by
  have HB0 : Hid (Below w.heap.size w (w.alloc (.cells #[.int .i64 0, .int .i64 0, .string ⟨#[]⟩] 32))) := (Below.refl _ _).alloc (Nat.le_refl _) _
  have BR := hide (Blk.newAt w w.heap.size rfl #[.int .i64 0, .int .i64 0, .string ⟨#[]⟩] 32)
  obtain ⟨W, hW⟩ : ∃ W, W = w.alloc (.cells #[.int .i64 0, .int .i64 0, .string ⟨#[]⟩] 32) := ⟨_, rfl⟩
  rw [← hW] at HB0 BR
  have HW := hide hW.symm
  have HK := hide (kindOf_any r W (hT.below HB0.out))
  have hk5 : kindB (bys r) ≤ 5 := by
    unfold kindB
    repeat' split
    all_goals omega
  have EP : Hid (plnT (bys r) = if kindB (bys r) = 0 then txtT (bys r) else sgnT (kindB (bys r))) := hide rfl
  have ET : Hid (tokV (txtT (bys r)) = .agg #[.int .i64 0, .int .i64 0, .string r]) := hide rfl
  have c0 := BR.out.cell 0
  have c1 := BR.out.cell 1
  have c2 := BR.out.cell 2
  have f0 := BR.out.free 0
  have f1 := BR.out.free 1
  have f2 := BR.out.free 2
  generalize plnT (bys r) = PL at *
  generalize txtT (bys r) = TX at *
  generalize kindB (bys r) = k at *
  clear hT hW
  have hc : k = 0 ∨ k = 1 ∨ k = 2 ∨ k = 3 ∨ k = 4 ∨ k = 5 := by omega
  rcases hc with rfl | rfl | rfl | rfl | rfl | rfl
  all_goals
    go_enter Tryd.func35, Tryd.ntmps35
    go_wp2_with (simp only [HW.out])
    refine HK.out.mono ?_
    rintro e w1 ⟨rfl, rfl⟩
    clear HK hk5
    go_wp2
    refine bodyPost_ret (results_tok rfl _ _ _ _ _ _ rfl (BR.out.put3T _ _ _)) rfl ?_
    refine ⟨?_, below_putT HB0.out (Nat.le_refl _) _ _ _⟩
    rw [EP.out]
    first
    | (rw [if_pos trivial, ET.out])
    | rfl

end Go.Proofs.YtobcbffakldfcaaDoor

namespace Go.Proofs.YtobcbffakldfcaaDoor
open Go.RowKit

section
variable {D : Nat} {a b c : World}
end

theorem Blk.set1of3 {w : World} {b : Nat} {x0 x1 x2 : Value} {t : TypeId} (h : Blk w b #[x0, x1, x2] t) (v : Value) : Blk (w.setCell ⟨b, 1, none⟩ v) b #[x0, v, x2] t := by
  unfold Blk at *
  simp only [World.setCell, Array.getElem?_modify, if_true, h, Option.map_some]
  rfl
theorem Blk.set2of3 {w : World} {b : Nat} {x0 x1 x2 : Value} {t : TypeId} (h : Blk w b #[x0, x1, x2] t) (v : Value) : Blk (w.setCell ⟨b, 2, none⟩ v) b #[x0, x1, v] t := by
  unfold Blk at *
  simp only [World.setCell, Array.getElem?_modify, if_true, h, Option.map_some]
  rfl

end Go.Proofs.YtobcbffakldfcaaDoor

namespace Go.Proofs.YtobcbffakldfcaaDoor
open Go.RowKit

theorem blk_atT {w : World} {g m : Nat} {a rest : List Value} {r : Value} {T : TypeId} (h : Blk w g (a ++ r :: rest).toArray T) (ha : a.length = m) : w.cell? ⟨g, m, none⟩ = some r := by
  rw [h.cell m, ← ha]
  simp
theorem blk_setT {w : World} {g m : Nat} {a rest : List Value} {r : Value} {T : TypeId} (h : Blk w g (a ++ r :: rest).toArray T) (ha : a.length = m) (v : Value) : Blk (w.setCell ⟨g, m, none⟩ v) g (a ++ v :: rest).toArray T := by
  have e : ((a ++ r :: rest).toArray).set! m v = (a ++ v :: rest).toArray := by
    rw [← ha, Array.set!_eq_setIfInBounds, List.setIfInBounds_toArray]
    simp
  unfold Blk at *
  simp only [World.setCell, Array.getElem?_modify, if_true, h, Option.map_some]
  rw [← e]
  rfl
theorem blk_snocT {w : World} {g : Nat} {a rest : List Value} {v : Value} {T : TypeId} (h : Blk w g (a ++ v :: rest).toArray T) : Blk w g ((a ++ [v]) ++ rest).toArray T := by
  rw [List.append_assoc]; exact h
theorem blk_put3T {w : World} {g m : Nat} {a rest : List Value} {r0 r1 r2 : Value} {T : TypeId} (h : Blk w g (a ++ r0 :: r1 :: r2 :: rest).toArray T) (ha : a.length = m) (v0 v1 v2 : Value) :
    Blk (((w.setCell ⟨g, m, none⟩ v0).setCell ⟨g, m + 1, none⟩ v1).setCell ⟨g, m + 2, none⟩ v2) g (a ++ v0 :: v1 :: v2 :: rest).toArray T := by
  have h0 := blk_snocT (blk_setT h ha v0)
  have h1 := blk_snocT (blk_setT h0 (m := m + 1) (by simp [ha]) v1)
  have h2 := blk_setT h1 (m := m + 2) (by simp [ha]) v2
  simpa using h2
theorem blk_threeT {w : World} {g m : Nat} {a rest : List Value} {r0 r1 r2 : Value} {T : TypeId} (h : Blk w g (a ++ r0 :: r1 :: r2 :: rest).toArray T) (ha : a.length = m) :
    w.cell? ⟨g, m, none⟩ = some r0 ∧ w.cell? ⟨g, m + 1, none⟩ = some r1 ∧ w.cell? ⟨g, m + 2, none⟩ = some r2 :=
  ⟨blk_atT h ha, blk_atT (blk_snocT h) (by simp [ha]), blk_atT (blk_snocT (blk_snocT h)) (by simp [ha])⟩
theorem blk_madeT {w : World} {B n sz : Nat} {e : TypeId} {g : Nat} {xs : List Value} (h : w.ownsRow B e sz (.slice (some ⟨g, 0, none⟩) n n) n xs) : Blk w g xs.toArray e ∧ xs.length = n * sz := by
  refine ⟨?_, h.1⟩
  rcases h.2 with ⟨q, _⟩ | ⟨g', cap, cur, q, _, hh, _, _, hs, ht⟩
  · cases q
  · simp only [Value.slice.injEq, Option.some.injEq, Addr.mk.injEq] at q
    obtain ⟨⟨rfl, _, _⟩, _, rfl⟩ := q
    unfold Blk
    rw [hh]
    have : cur.toList = xs := by rw [← ht, List.take_of_length_le (by rw [Array.length_toList, hs]; exact Nat.le_refl _)]
    rw [← this]
theorem three_of {l : List Value} {n : Nat} (h : l.length = (n + 1) * 3) : ∃ r0 r1 r2 r, l = r0 :: r1 :: r2 :: r ∧ r.length = n * 3 := by
  match l, h with
  | r0 :: r1 :: r2 :: r, h => exact ⟨r0, r1, r2, r, rfl, by simp at h; omega⟩
  | [], h => simp at h
  | [_], h => simp at h; omega
  | [_, _], h => simp at h; omega

theorem cells_at : ∀ (ts : List Tok) (i : Nat), i < ts.length → (cellsT ts)[i * 3]? = some (.int .i64 (tokN ts i).kind) ∧ (cellsT ts)[i * 3 + 1]? = some (.int .i64 (tokN ts i).many) ∧ (cellsT ts)[i * 3 + 2]? = some (.string (tokN ts i).text)
  | [], i, h => by simp at h
  | t :: ts, 0, _ => ⟨rfl, rfl, rfl⟩
  | t :: ts, i + 1, h => by
    have := cells_at ts i (by simpa using h)
    have e : cellsT (t :: ts) = .int .i64 t.kind :: .int .i64 t.many :: .string t.text :: cellsT ts := rfl
    have en : tokN (t :: ts) (i + 1) = tokN ts i := rfl
    rw [e, en, show (i + 1) * 3 = i * 3 + 1 + 1 + 1 by omega]
    exact this
theorem TSl.of_blk {w : World} {g : Nat} {ts : List Tok} (h : Blk w g (cellsT ts).toArray 32) (cap : Nat) (hc : ts.length ≤ cap) : TSl w (.slice (some ⟨g, 0, none⟩) ts.length cap) ts :=
  ⟨_, cap, rfl, hc, .inr ⟨g, 0, rfl, fun i hi => by
    obtain ⟨a, b, c⟩ := cells_at ts i hi
    rw [Nat.zero_add]
    refine ⟨?_, ?_, ?_⟩
    · rw [h.cell]; simpa using a
    · rw [h.cell]; simpa using b
    · rw [h.cell]; simpa using c⟩⟩

def turn1 (f t : Int) (x : Tok) : Tok := if x.kind = f then ⟨t, 0, ⟨#[]⟩⟩ else x
theorem turnT_take (f t : Int) (ts : List Tok) (k : Nat) (h : k < ts.length) : turnT f t (ts.take (k + 1)) = turnT f t (ts.take k) ++ [turn1 f t (tokN ts k)] := by
  have e : tokN ts k = ts[k] := tokN_get (List.getElem?_eq_getElem h)
  unfold turnT
  rw [List.take_add_one, List.getElem?_eq_getElem h, e, List.map_append]
  rfl

set_option maxRecDepth 100000 in
set_option maxHeartbeats 4000000 in
theorem Turn_at (b o cap : Nat) (f t : Int) (ts : List Tok) (w : World) (hl : ts.length * 32 ≤ 140737488355328) (hc : ts.length ≤ cap) (h3 : TkAt w b o ts) :
    Calls Tryd.prog 11 #[.slice (some ⟨b, o, none⟩) ts.length cap, .int .i64 f, .int .i64 t] w fun e w' => ∃ g, e = .returned (.slice (some ⟨g, 0, none⟩) ts.length ts.length) ∧ w.heap.size ≤ g ∧ Blk w' g (cellsT (turnT f t ts)).toArray 32 ∧ Below w.heap.size w w' := by
  obtain ⟨i0, hi, hz0, hz1, hz2⟩ := info_parts infoT
  have H3 := hide h3
  clear h3
  obtain ⟨L, hL⟩ : ∃ L, L = ts.length := ⟨_, rfl⟩
  rw [← hL] at hl hc ⊢
  have HL := hide hL
  clear hL
  go_enter Tryd.func11, Tryd.ntmps11
  go_wp2_with (at_make; refine wpList_make_full _ rfl _ _ 22 rfl w.heap.size 32 i0 (.agg #[.int .i64 0, .int .i64 0, .string ⟨#[]⟩]) 3 Tryd.underlying22 hi hz0 hz1 _ _ _ _ L rfl rfl rfl rfl (by rw [hz2]; omega) (by unfold maxLen; omega) (Nat.le_refl _) ?_; intro w2 hrow hgr)
  have B12 : Below w.heap.size w w2 := ⟨hgr.os, hgr.tape, hgr.output, hgr.size, fun k hk => hgr.block k hk (by simp)⟩
  obtain ⟨hbk, hlen⟩ := blk_madeT hrow
  obtain ⟨g, hg⟩ : ∃ g, g = w.heap.size := ⟨_, rfl⟩
  rw [← hg] at hbk
  simp only [← hg]
  have HG := hide hg
  have Q2 := hide hbk
  have LN := hide hlen
  have U2 := hide B12
  generalize (madeCells (Value.agg #[.int .i64 0, .int .i64 0, .string ⟨#[]⟩]).cells (L * 3)).toList = xs at *
  clear hrow hgr B12 hbk hlen hg
  have hgw : w.heap.size ≤ g := by rw [HG.out]; exact Nat.le_refl _
  go_wp2
  go_loopw [15] (fun q wr => ∃ (k : Nat) (rest : List Value), k ≤ L ∧ q = .int .i64 (k : Int) ∧ Hid (rest.length = (L - k) * 3 ∧ Blk wr g (cellsT (turnT f t (ts.take k)) ++ rest).toArray 32) ∧ Hid (Below w.heap.size w wr)) (fun q _ => L - (intOf q).toNat)
  case atStart => exact ⟨0, xs, Nat.zero_le _, rfl, hide ⟨LN.out, Q2.out⟩, U2⟩
  case round =>
    obtain ⟨k, rest, hk, rfl, HF, HW⟩ := hrel
    by_cases hlt : k < L
    · have hlt' : (k : Int) < (L : Int) := by omega
      have hkt : k < ts.length := by rw [← HL.out]; exact hlt
      obtain ⟨c0, c1, c2⟩ := (H3.out.below HW.out) k hkt
      obtain ⟨r0, r1, r2, rest', hrest, hrl⟩ := three_of (l := rest) (n := L - (k + 1)) (by rw [HF.out.1]; congr 1; omega)
      subst hrest
      have HRL := hide hrl
      have CL : Hid ((cellsT (turnT f t (ts.take k))).length = k * 3) := hide (by rw [cellsT_len]; unfold turnT; rw [List.length_map, List.length_take, Nat.min_eq_left (by omega)])
      have ET := hide (turnT_take f t ts k hkt)
      obtain ⟨x, hx⟩ : ∃ x, x = tokN ts k := ⟨_, rfl⟩
      rw [← hx] at c0 c1 c2 ET
      obtain ⟨y, hy⟩ : ∃ y, y = turn1 f t x := ⟨_, rfl⟩
      rw [← hy] at ET
      have BA : Hid (∀ O, Below wr.heap.size wr (wr.alloc O)) := hide (fun O => (Below.refl _ _).alloc (Nat.le_refl _) _)
      have BY := hide (HF.out.2.alloc (.cells #[.int .i64 y.kind, .int .i64 y.many, .string y.text] 32))
      obtain ⟨b0, b1, b2⟩ := blk_threeT BY.out CL.out
      have f0 := BY.out.free (k * 3)
      have f1 := BY.out.free (k * 3 + 1)
      have f2 := BY.out.free (k * 3 + 2)
      have PN : Hid (Blk ((((wr.alloc (.cells #[.int .i64 y.kind, .int .i64 y.many, .string y.text] 32)).setCell ⟨g, k * 3, none⟩ (.int .i64 y.kind)).setCell ⟨g, k * 3 + 1, none⟩ (.int .i64 y.many)).setCell ⟨g, k * 3 + 2, none⟩ (.string y.text)) g (cellsT (turnT f t (ts.take (k + 1))) ++ rest').toArray 32) := hide (by
        rw [ET.out, cellsT_snoc, List.append_assoc]
        exact blk_put3T BY.out CL.out _ _ _)
      have UN := hide ((((HW.out.trans ((BA.out (.cells #[.int .i64 y.kind, .int .i64 y.many, .string y.text] 32)).mono HW.out.size)).setCell (p := ⟨g, k * 3, none⟩) hgw (.int .i64 y.kind)).setCell (p := ⟨g, k * 3 + 1, none⟩) hgw (.int .i64 y.many)).setCell (p := ⟨g, k * 3 + 2, none⟩) hgw (.string y.text))
      have hne : ¬ wr.heap.size = g := by have := HF.out.2.lt; omega
      have hne' : ¬ g = wr.heap.size := by have := HF.out.2.lt; omega
      have CA : Hid (∀ O, (wr.alloc O).cell? ⟨g, k * 3, none⟩ = some r0 ∧ (wr.alloc O).cell? ⟨g, k * 3 + 1, none⟩ = some r1 ∧ (wr.alloc O).cell? ⟨g, k * 3 + 2, none⟩ = some r2) := hide (fun O => blk_threeT (HF.out.2.alloc O) CL.out)
      clear hkt hx hrl BY BA HF HW CL CA
      by_cases hm : x.kind = f
      · have hm' : (x.kind == f) = true := beq_iff_eq.2 hm
        have hyv : y = ⟨t, 0, ⟨#[]⟩⟩ := by rw [hy]; unfold turn1; rw [if_pos hm]
        subst hyv
        clear hm hy
        simp only at b0 b1 b2 f0 f1 f2 PN UN
        go_wp2
        exact ⟨⟨k + 1, rest', by omega, by go_num, hide ⟨HRL.out, PN.out⟩, UN⟩, by simp [intOf]; omega⟩
      · have hm' : (x.kind == f) = false := beq_eq_false_iff_ne.2 hm
        have hyv : x = y := by rw [hy]; unfold turn1; rw [if_neg hm]
        subst hyv
        clear hm hy
        go_wp2
        exact ⟨⟨k + 1, rest', by omega, by go_num, hide ⟨HRL.out, PN.out⟩, UN⟩, by simp [intOf]; omega⟩
    · obtain rfl : k = L := by omega
      have hlt' : ¬ (k : Int) < (k : Int) := by omega
      have HQ : Hid (Blk wr g (cellsT (turnT f t ts)).toArray 32) := hide (by
        have q := HF.out
        have e : rest = [] := List.eq_nil_of_length_eq_zero (by rw [q.1]; omega)
        rw [e, List.append_nil, List.take_of_length_le (by rw [← HL.out]; exact Nat.le_refl _)] at q
        exact q.2)
      clear HF hlt
      go_wp2
      go_ret
      exact ⟨g, rfl, hgw, HQ.out, HW.out⟩

set_option maxRecDepth 100000 in
set_option maxHeartbeats 4000000 in
theorem Turn_nil (ao : Option Addr) (cap : Nat) (f t : Int) (w : World) :
    Calls Tryd.prog 11 #[.slice ao 0 cap, .int .i64 f, .int .i64 t] w fun e w' => ∃ g, e = .returned (.slice (some ⟨g, 0, none⟩) 0 0) ∧ w.heap.size ≤ g ∧ Blk w' g #[] 32 ∧ Below w.heap.size w w' := by
  obtain ⟨i0, hi, hz0, hz1, hz2⟩ := info_parts infoT
  go_enter Tryd.func11, Tryd.ntmps11
  go_wp2_with (at_make; refine wpList_make_full _ rfl _ _ 22 rfl w.heap.size 32 i0 (.agg #[.int .i64 0, .int .i64 0, .string ⟨#[]⟩]) 3 Tryd.underlying22 hi hz0 hz1 _ _ _ _ 0 rfl rfl rfl rfl (by rw [hz2]; omega) (by unfold maxLen; omega) (Nat.le_refl _) ?_; intro w2 hrow hgr)
  have B12 : Below w.heap.size w w2 := ⟨hgr.os, hgr.tape, hgr.output, hgr.size, fun k hk => hgr.block k hk (by simp)⟩
  obtain ⟨hbk, hlen⟩ := blk_madeT hrow
  generalize (madeCells (Value.agg #[.int .i64 0, .int .i64 0, .string ⟨#[]⟩]).cells (0 * 3)).toList = xs at *
  obtain rfl : xs = [] := List.eq_nil_of_length_eq_zero (by simpa using hlen)
  have Q2 : Hid (Blk w2 w.heap.size #[] 32) := hide hbk
  have U2 := hide B12
  clear hrow hgr B12 hbk hlen
  go_wp2
  go_loopw [15] (fun q wr => q = .int .i64 0 ∧ wr = w2) (fun q _ => 0)
  case atStart => exact ⟨rfl, rfl⟩
  case round =>
    obtain ⟨rfl, rfl⟩ := hrel
    go_wp2
    go_ret
    exact ⟨_, rfl, Nat.le_refl _, Q2.out, U2.out⟩

theorem Turn_any {w : World} {v : Value} {ts : List Tok} (f t : Int) (h : TSl w v ts) (hl : ts.length * 32 ≤ 140737488355328) :
    Calls Tryd.prog 11 #[v, .int .i64 f, .int .i64 t] w fun e w' => ∃ g, e = .returned (.slice (some ⟨g, 0, none⟩) ts.length ts.length) ∧ w.heap.size ≤ g ∧ Blk w' g (cellsT (turnT f t ts)).toArray 32 ∧ Below w.heap.size w w' := by
  obtain ⟨ao, cap, rfl, h2, h3⟩ := h
  rcases h3 with rfl | ⟨b, o, rfl, h3⟩
  · exact Turn_nil ao cap f t w
  · exact Turn_at b o cap f t ts w hl h2 h3

end Go.Proofs.YtobcbffakldfcaaDoor

namespace Go.Proofs.YtobcbffakldfcaaDoor

theorem nil_or_snoc {α : Type} (l : List α) : l = [] ∨ ∃ p a, l = p ++ [a] := by
  rcases List.eq_nil_or_concat l with h | ⟨p, a, h⟩
  · exact .inl h
  · exact .inr ⟨p, a, by rw [h, List.concat_eq_append]⟩
theorem runsP_cons (st : Nat) (l : List Tok) (r : List UInt8) (rs : List (List UInt8)) : runsP st l (r :: rs) = match stepP st l r with | none => none | some q => runsP q.1 q.2 rs := rfl
theorem addT_nil (t : Tok) : addT [] t = [t] := rfl
theorem addT_snoc (p : List Tok) (a t : Tok) : addT (p ++ [a]) t = if joinT a t then p ++ [merT a t] else p ++ [a] ++ [t] := by
  unfold addT
  rw [List.getLast?_concat]
  simp only [List.dropLast_concat]
theorem coinsT_snoc (p : List Tok) (a : Tok) : coinsT (p ++ [a]) = if a.kind = 5 then a.many else 0 := by
  unfold coinsT
  rw [List.getLast?_concat]
theorem stepP_st {st : Nat} {l : List Tok} {r : List UInt8} {q : Nat × List Tok} (h : stepP st l r = some q) : q.1 ≤ 3 := by
  unfold stepP aft at h
  revert h
  repeat' split
  all_goals (intro h; first | (cases h; simp only; try split) | cases h)
  all_goals (try split)
  all_goals (try omega)
  all_goals (try split)
  all_goals (try omega)
  all_goals (try split)
  all_goals (try omega)
theorem runsP_st : ∀ (rs : List (List UInt8)) (st : Nat) (l : List Tok) (q : Nat × List Tok), st ≤ 3 → runsP st l rs = some q → q.1 ≤ 3
  | [], st, l, q, h, e => by
    simp only [runsP, Option.some.injEq] at e
    rw [← e]; exact h
  | r :: rs, st, l, q, _, e => by
    rw [runsP_cons] at e
    cases hs : stepP st l r with
    | none => rw [hs] at e; cases e
    | some p => rw [hs] at e; exact runsP_st rs p.1 p.2 q (stepP_st hs) e

theorem badT_app : ∀ (l : List Tok) (p : Option Tok) (s : Tok) (m : List Tok), badT p (l ++ s :: m) = (badT p l || ((!mayTok s || joinO (l.getLast?.or p) s) || badT (some s) m))
  | [], p, s, m => by simp [badT]
  | a :: l, p, s, m => by
    rw [List.cons_append, badT, badT, badT_app l (some a) s m]
    have : (l.getLast?.or (some a)) = ((a :: l).getLast?.or p) := by
      cases l with
      | nil => rfl
      | cons b l =>
        obtain ⟨q, x, h⟩ : ∃ q x, b :: l = q ++ [x] := by
          rcases nil_or_snoc (b :: l) with h | h
          · cases h
          · exact h
        rw [h, ← List.cons_append, List.getLast?_concat, List.getLast?_concat]
        rfl
    rw [this]
    cases (!mayTok a || joinO p a) <;> simp
theorem chkT_bad {l : List Tok} (h : chkT l = 0) : badT none l = false ∧ longT l = false := by
  unfold chkT at h
  cases hb : badT none l with
  | true => rw [hb] at h; simp at h
  | false =>
    rw [hb] at h
    cases hl : longT l with
    | true => rw [hl] at h; simp at h
    | false => exact ⟨rfl, rfl⟩

theorem parseR_ok {l : List UInt8} {m : List Tok} (h : parseR l = (0, m)) : ∃ st, runsP 0 [] (rns l) = some (st, m) ∧ (st = 0 ∨ st = 3) ∧ (runesL l).isSome = true ∧ chkT m = 0 := by
  unfold parseR at h
  cases hr : runsP 0 [] (rns l) with
  | none => rw [hr] at h; cases h
  | some q =>
    rw [hr] at h
    simp only at h
    cases hv : (runesL l).isNone with
    | true => rw [hv] at h; simp at h
    | false =>
      rw [hv] at h
      simp only [Bool.false_eq_true, if_false] at h
      by_cases hq : q.1 = 1 ∨ q.1 = 2
      · rw [if_pos hq] at h; cases h
      · rw [if_neg hq] at h
        have h3 := runsP_st (rns l) 0 [] q (by omega) hr
        by_cases hc : chkT q.2 = 0
        · rw [if_pos hc] at h
          cases h
          refine ⟨q.1, rfl, by omega, ?_, hc⟩
          cases hx : runesL l with
          | none => rw [hx] at hv; cases hv
          | some n => rfl
        · rw [if_neg hc] at h
          exact absurd (congrArg Prod.fst h) hc

end Go.Proofs.YtobcbffakldfcaaDoor

namespace Go.Proofs.YtobcbffakldfcaaDoor
open Go.RowKit

def GatV (w : World) (D : Nat) (v : Value) (G : List Tok) (sz co : Int) : Prop := Blk w D #[v, .int .i64 sz, .int .i64 co] 56 ∧ w.ownsRow (D + 1) 32 3 v G.length (cellsT G)
def Gat (w : World) (D : Nat) (G : List Tok) (sz co : Int) : Prop := ∃ v, GatV w D v G sz co

theorem Gat.lt {w : World} {D : Nat} {G : List Tok} {sz co : Int} (h : Gat w D G sz co) : D < w.heap.size := by
  obtain ⟨v, h1, _⟩ := h
  exact h1.lt
theorem Gat.below {w w' : World} {D : Nat} {G : List Tok} {sz co : Int} (h : Gat w D G sz co) (hb : Below w.heap.size w w') : Gat w' D G sz co := by
  obtain ⟨v, h1, h3⟩ := h
  exact ⟨v, h1.below hb h1.lt, World.ownsRow.kept h3 (row := none) ⟨hb.os, hb.tape, hb.output, hb.size, fun k hk _ => hb.block k hk⟩ (by cases v.ownBlock <;> simp)⟩

def Oth (D : Nat) (r : Option Nat) (w w' : World) : Prop := w.heap.size ≤ w'.heap.size ∧ ∀ b, b < w.heap.size → b ≠ D → some b ≠ r → w'.heap[b]? = w.heap[b]?
theorem Oth.refl (D : Nat) (r : Option Nat) (w : World) : Oth D r w w := ⟨Nat.le_refl _, fun _ _ _ _ => rfl⟩
theorem Oth.below {D : Nat} {r : Option Nat} {w w' w'' : World} (h : Oth D r w w') (hb : Below w'.heap.size w' w'') : Oth D r w w'' :=
  ⟨Nat.le_trans h.1 hb.size, fun b h1 h2 h3 => (hb.block b (Nat.lt_of_lt_of_le h1 h.1)).trans (h.2 b h1 h2 h3)⟩
theorem Oth.set {D : Nat} {r : Option Nat} {w w' : World} (h : Oth D r w w') (c i : Nat) (v : Value) (hc : c = D ∨ w.heap.size ≤ c ∨ r = some c) : Oth D r w (w'.setCell ⟨c, i, none⟩ v) := by
  refine ⟨by rw [show (w'.setCell ⟨c, i, none⟩ v).heap.size = w'.heap.size by simp [World.setCell]]; exact h.1, fun b h1 h2 h3 => ?_⟩
  have hne : c ≠ b := by
    rintro rfl
    rcases hc with q | q | q
    · exact h2 q
    · omega
    · exact h3 q.symm
  rw [← h.2 b h1 h2 h3]
  simp [World.setCell, Array.getElem?_modify, hne]
theorem Oth.alloc {D : Nat} {r : Option Nat} {w w' : World} (h : Oth D r w w') (o : Obj) : Oth D r w (w'.alloc o) := h.below ((Below.refl _ _).alloc (Nat.le_refl _) _)
theorem Oth.drew {D : Nat} {r : Option Nat} {w w' : World} (h : Oth D r w w') : Oth D r w w'.drew := h.below (Below.refl _ _).drew
theorem Oth.grown {D : Nat} {r : Option Nat} {w w' w'' : World} (h : Oth D r w w') (hg : w'.grownBy w'' r) : Oth D r w w'' :=
  ⟨Nat.le_trans h.1 hg.size, fun b h1 h2 h3 => (hg.block b (Nat.lt_of_lt_of_le h1 h.1) h3).trans (h.2 b h1 h2 h3)⟩

set_option maxHeartbeats 1000000 in
theorem sclone_any (s : ByteArray) (w : World) (hs : s.size ≤ 281474976710656) : Calls Tryd.prog 68 #[.string s] w fun e w' => e = .returned (.string s) ∧ Below w.heap.size w w' := by
  have HC := hide (Tryd.stringslite_Clone s w hs)
  go_enter Tryd.func68, Tryd.ntmps68
  go_wp2_with fail
  refine HC.out.mono ?_
  rintro e w1 ⟨rfl, hb⟩
  go_wp2
  go_ret
  exact ⟨rfl, hb⟩

theorem own_slice {w : World} {B n : Nat} {v : Value} {xs : List Value} (h : w.ownsRow B 32 3 v n xs) : ∃ ao cap, v = .slice ao n cap := by
  rcases h.2 with ⟨hv, hn⟩ | ⟨g, cap, cur, hv, _⟩
  · exact ⟨none, 0, by rw [hv, hn]⟩
  · exact ⟨_, cap, hv⟩
theorem Blk.set0T {w : World} {b : Nat} {x0 x1 x2 : Value} {t : TypeId} (h : Blk w b #[x0, x1, x2] t) (v : Value) : Blk (w.setCell ⟨b, 0, none⟩ v) b #[v, x1, x2] t := by
  unfold Blk at *
  simp only [World.setCell, Array.getElem?_modify, if_true, h, Option.map_some]
  rfl
theorem own_below {w w' : World} {B n : Nat} {v : Value} {xs : List Value} (h : w.ownsRow B 32 3 v n xs) (hb : Below w.heap.size w w') : w'.ownsRow B 32 3 v n xs :=
  World.ownsRow.kept h (row := none) ⟨hb.os, hb.tape, hb.output, hb.size, fun k hk _ => hb.block k hk⟩ (by cases v.ownBlock <;> simp)
theorem own_set {w : World} {B D i n : Nat} {v u : Value} {xs : List Value} (h : w.ownsRow B 32 3 v n xs) (hD : D < B) : (w.setCell ⟨D, i, none⟩ u).ownsRow B 32 3 v n xs := ownsRow_setCell_below h (a := ⟨D, i, none⟩) hD u

set_option maxRecDepth 100000 in
set_option maxHeartbeats 4000000 in
theorem keep_nil {w : World} {D : Nat} {v : Value} (t : Tok) (sz co : Int) (h : GatV w D v [] sz co) (hs0 : 0 ≤ sz) (hs1 : sz ≤ 1000) (ht : t.text.size ≤ 1000) :
    Calls Tryd.prog 54 #[.pointer (some ⟨D, 0, none⟩), tokV t] w fun e w' => e = .returned (.tuple #[]) ∧ Gat w' D [t] (sz + t.text.size) co ∧ Below D w w' ∧ Oth D v.ownBlock w w' := by
  obtain ⟨i0, hi, hz0, hz1, hz2⟩ := info_parts infoT
  obtain ⟨h1, h2⟩ := h
  have hDw := h1.lt
  obtain ⟨ao, cap, rfl⟩ := own_slice h2
  have NB : Hid (∀ q, (Value.slice ao ([] : List Tok).length cap).ownBlock = some q → q < w.heap.size) := hide (fun q hq => (World.ownsRow.lt h2 q hq).2)
  obtain ⟨k, n, x⟩ := t
  unfold tokV
  simp only [List.length_nil] at ht h1 h2 ⊢
  have HK := hide h1
  have H1 := hide (h1.alloc (.cells #[.int .i64 k, .int .i64 n, .string x] 32))
  have T1 := hide (Blk.newAt w w.heap.size rfl #[.int .i64 k, .int .i64 n, .string x] 32)
  have c0 := H1.out.cell 0
  have c1 := H1.out.cell 1
  have c2 := H1.out.cell 2
  have f0 := H1.out.free 0
  have f1 := H1.out.free 1
  have n1 : ¬ w.heap.size = D := by omega
  have n2 : ¬ D = w.heap.size := by omega
  clear h1
  go_enter Tryd.func54, Tryd.ntmps54
  go_wp2_with fail
  go_region
  obtain ⟨W1, hW1⟩ : ∃ W1, W1 = ((w.setCell ⟨D, 1, none⟩ (.int .i64 (sz + (x.size : Int)))).alloc (.cells #[.int .i64 k, .int .i64 n, .string x] 32)).drew := ⟨_, rfl⟩
  simp only [← hW1]
  have K1 : Hid (Blk W1 D #[.slice ao 0 cap, .int .i64 (sz + (x.size : Int)), .int .i64 co] 56) := hide (by rw [hW1]; exact (HK.out.set1of3 _).alloc _)
  have K2 : Hid (Blk W1 w.heap.size #[.int .i64 k, .int .i64 n, .string x] 32) := hide (by rw [hW1]; exact Blk.newAt _ _ (by simp [World.setCell]) _ _)
  have K3 : Hid (W1.ownsRow (D + 1) 32 3 (.slice ao 0 cap) 0 []) := hide (by
    rw [hW1]
    have q := own_set (i := 1) (u := .int .i64 (sz + (x.size : Int))) h2 (Nat.lt_succ_self D)
    exact own_below q ((Below.refl _ _).alloc (Nat.le_refl _) _).drew)
  have O1 : Hid (Oth D (Value.slice ao 0 cap).ownBlock w W1) := hide (by
    rw [hW1]
    exact (((Oth.refl _ _ _).set D 1 _ (.inl rfl)).alloc _).drew)
  have K4 : Hid (Below D w W1 ∧ w.heap.size < W1.heap.size) := hide (by
    rw [hW1]
    exact ⟨(((Below.refl D w).setCell (p := ⟨D, 1, none⟩) (Nat.le_refl _) _).alloc (by simp [World.setCell]; omega) _).drew, by simp [World.alloc, World.drew, World.setCell]⟩)
  clear hW1 h2 H1 T1 c0 c1 c2 f0 f1
  have c0 := K1.out.cell 0
  have d2 := K2.out.cell 2
  go_wp2_with fail
  go_region
  have HCl := hide (sclone_any x W1.drew (by omega))
  go_wp2_with fail
  refine HCl.out.mono ?_
  rintro e w2 ⟨rfl, hb0⟩
  have hb : Below W1.heap.size W1 w2 := (Below.refl _ _).drew.trans hb0
  obtain ⟨W3, hW3⟩ : ∃ W3, W3 = w2.setCell ⟨w.heap.size, 2, none⟩ (.string x) := ⟨_, rfl⟩
  have M1 : Hid (Blk W3 D #[.slice ao 0 cap, .int .i64 (sz + (x.size : Int)), .int .i64 co] 56) := hide (by rw [hW3]; exact (K1.out.below hb K1.out.lt).other (a := ⟨w.heap.size, 2, none⟩) n1 _)
  have P2 := hide (K2.out.below hb K2.out.lt)
  have M2 : Hid (Blk W3 w.heap.size #[.int .i64 k, .int .i64 n, .string x] 32) := hide (by rw [hW3]; exact P2.out.set2of3 _)
  have M4 : Hid (Below D w W3 ∧ w.heap.size < W3.heap.size) := hide (by
    rw [hW3]
    refine ⟨(K4.out.1.trans (hb.mono (Nat.le_of_lt (Nat.lt_of_lt_of_le hDw (Nat.le_of_lt K4.out.2))))).setCell (p := ⟨w.heap.size, 2, none⟩) (Nat.le_of_lt hDw) _, ?_⟩
    have := hb.size
    have := K4.out.2
    simp only [World.setCell, Array.size_modify]
    omega)
  have O3 : Hid (Oth D (Value.slice ao 0 cap).ownBlock w W3) := hide (by
    rw [hW3]
    exact (O1.out.below hb).set w.heap.size 2 _ (.inr (.inl (Nat.le_refl _))))
  have M3 : Hid (W3.ownsRow (D + 1) 32 3 (.slice ao 0 cap) 0 []) := hide (by
    rw [hW3]
    have q := own_below K3.out hb
    exact q.kept (row := some w.heap.size) ⟨rfl, rfl, rfl, by simp [World.setCell], fun j _ hj => by
      have : w.heap.size ≠ j := fun e => hj (by rw [e])
      simp [World.setCell, Array.getElem?_modify, this]⟩ (Or.inr (fun e => Nat.lt_irrefl _ (NB.out _ e))))
  have HW3 := hide hW3.symm
  have p2 := P2.out.cell 2
  have g2 := P2.out.free 2
  clear hb hb0 HCl K1 K2 K3 K4 O1 P2 hW3 c0 d2
  have c0 := M1.out.cell 0
  have d0 := M2.out.cell 0
  have d1 := M2.out.cell 1
  have d2 := M2.out.cell 2
  have hW3s : w.heap.size < W3.heap.size := M4.out.2
  have m1 : ¬ D = W3.heap.size := by omega
  have m2 : ¬ W3.heap.size = D := by omega
  have OW : Hid ((W3.alloc (.cells #[.int .i64 k, .int .i64 n, .string x] 32)).drew.ownsRow (D + 1) 32 3 (.slice ao 0 cap) 0 []) := hide (own_below M3.out ((Below.refl _ _).alloc (Nat.le_refl _) _).drew)
  have TB : Hid (Blk (W3.alloc (.cells #[.int .i64 k, .int .i64 n, .string x] 32)).drew W3.heap.size #[.int .i64 k, .int .i64 n, .string x] 32) := hide (Blk.newAt W3 W3.heap.size rfl _ _)
  have NEWS : Hid (∀ j u, (cellsT [(⟨k, n, x⟩ : Tok)])[j]? = some u → (W3.alloc (.cells #[.int .i64 k, .int .i64 n, .string x] 32)).drew.cell? ((⟨W3.heap.size, 0, none⟩ : Addr).add j) = some u) := hide (fun j u hj => by
    rw [Addr.add_lit, Nat.zero_add, TB.out.cell j, ← hj]
    show _ = [Value.int .i64 k, .int .i64 n, .string x][j]?
    simp)
  have ONE : Hid (∀ u ∈ cellsT [(⟨k, n, x⟩ : Tok)], u.oneCell' = true) := hide (fun u hu => by
    have : u ∈ [Value.int .i64 k, .int .i64 n, .string x] := hu
    simp only [List.mem_cons, List.not_mem_nil, or_false] at this
    rcases this with rfl | rfl | rfl <;> rfl)
  have f0 := M1.out.free 0
  have BASE : Hid (D + 1 ≤ (W3.alloc (.cells #[.int .i64 k, .int .i64 n, .string x] 32)).drew.heap.size) := hide (by show D + 1 ≤ (W3.heap.push _).size; rw [Array.size_push]; omega)
  have GK : Hid (∀ w4, (W3.alloc (.cells #[.int .i64 k, .int .i64 n, .string x] 32)).drew.grownBy w4 (Value.slice ao 0 cap).ownBlock → Blk w4 D #[.slice ao 0 cap, .int .i64 (sz + (x.size : Int)), .int .i64 co] 56) := hide (fun w4 hg => by
    have q := M1.out.alloc (.cells #[.int .i64 k, .int .i64 n, .string x] 32)
    unfold Blk at *
    rw [hg.block D (by show D < (W3.heap.push _).size; rw [Array.size_push]; omega) (fun e => by have := (World.ownsRow.lt M3.out _ e.symm).1; omega)]
    exact q)
  have FR : Hid (∀ w4, (W3.alloc (.cells #[.int .i64 k, .int .i64 n, .string x] 32)).drew.grownBy w4 (Value.slice ao 0 cap).ownBlock → Below D w w4) := hide (fun w4 hg => (M4.out.1.trans (((Below.refl _ _).alloc (Nat.le_refl _) _).drew.mono (by omega))).grown hg (Nat.le_of_succ_le BASE.out) (fun q hq => Nat.le_of_lt (World.ownsRow.lt OW.out q hq).1))
  have OR : Hid (∀ w4, (W3.alloc (.cells #[.int .i64 k, .int .i64 n, .string x] 32)).drew.grownBy w4 (Value.slice ao 0 cap).ownBlock → Oth D (Value.slice ao 0 cap).ownBlock w w4) := hide (fun w4 hg => (O3.out.alloc _).drew.grown hg)
  have M1a := hide (M1.out.alloc (.cells #[.int .i64 k, .int .i64 n, .string x] 32))
  have M2a := hide (M2.out.alloc (.cells #[.int .i64 k, .int .i64 n, .string x] 32))
  have ca0 := M1a.out.cell 0
  have da0 := M2a.out.cell 0
  have da1 := M2a.out.cell 1
  have da2 := M2a.out.cell 2
  go_wp2_with (simp only [HW3.out])
  clear TB HW3 p2 g2 M1a M2a
  go_region_law ((refine step_append_lies _ (by rfl) _ _ _ (by rfl) (D + 1) 32 i0 (.agg #[.int .i64 0, .int .i64 0, .string ⟨#[]⟩]) 3 32 Tryd.underlying22 hi hz0 hz1 hz2 rfl (by decide) (.slice ao 0 cap) 0 [] rfl OW.out ⟨W3.heap.size, 0, none⟩ 1 1 (cellsT [(⟨k, n, x⟩ : Tok)]) rfl rfl NEWS.out ONE.out (by decide) (by unfold maxLen; omega) (by omega) BASE.out _ rfl ?_; intro g cp w4 hown hgr hat hlt; have z0 := (GK.out w4 hgr).cell 0; have z1 := (GK.out w4 hgr).free 0))
  all_goals
    have BL := FR.out w4 hgr
    have OL := OR.out w4 hgr
    have BK := (GK.out w4 hgr).set0T (.slice (some ⟨g, 0, none⟩) 1 cp)
    have OK := own_set (i := 0) (u := .slice (some ⟨g, 0, none⟩) 1 cp) hown (Nat.lt_succ_self D)
    clear hgr hat hlt z0 z1
    go_end0
    exact ⟨rfl, ⟨_, BK, OK⟩, BL.setCell (p := ⟨D, 0, none⟩) (Nat.le_refl _) _, OL.set D 0 _ (.inl rfl)⟩

end Go.Proofs.YtobcbffakldfcaaDoor
