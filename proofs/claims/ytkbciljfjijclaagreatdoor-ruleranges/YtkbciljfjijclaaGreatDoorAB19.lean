/-
  What rule's readRelation does.
-/
import Derived.Test.YtkbciljfjijclaaGreatDoorAB18
namespace Go.Proofs.YtkbciljfjijclaaGreatDoor
open Go.RowKit

def IsRel (base : Nat) (y : RelT) (v : Value) (W : World) : Prop := ∃ s, v = .agg #[.int .u8 (y.op.toNat : Int), .int .i64 (y.div : Int), .bool y.neq, s] ∧ Lst base 303 2 ElRange y.rs s W

theorem rel_at {ts : List Tok} {i : Nat} {t : Tok} (h : ts[i]? = some t) (hn : ∀ j u, j < i → ts[j]? = some u → isEq u = false) (ht : isEq t = true) :
    ts.takeWhile (fun t => !isEq t) = ts.take i ∧ ts.dropWhile (fun t => !isEq t) = t :: ts.drop (i + 1) := by
  induction ts generalizing i with
  | nil => simp at h
  | cons a l ih =>
    cases i with
    | zero =>
      simp only [List.getElem?_cons_zero, Option.some.injEq] at h
      subst h
      simp [List.takeWhile, List.dropWhile, ht]
    | succ i =>
      have ha := hn 0 a (by omega) rfl
      have := ih (by simpa using h) (fun j u hj hu => hn (j + 1) u (by omega) (by simpa using hu))
      simp [List.takeWhile, List.dropWhile, ha, this]

theorem rel_none {ts : List Tok} (hn : ∀ (j : Nat) u, ts[j]? = some u → isEq u = false) : relT ts = none := by
  have : ts.dropWhile (fun t => !isEq t) = [] := by
    induction ts with
    | nil => rfl
    | cons a l ih =>
      have ha := hn 0 a rfl
      simp only [List.dropWhile, ha]
      exact ih (fun j u hu => hn (j + 1) u (by simpa using hu))
  unfold relT
  rw [this]

theorem kt_put4 {W : World} {b : Nat} {cs : Array Value} (h : Blk W b cs 229) (y0 y1 y2 y3 : Value) : KT (fun ty => ty ≠ 229) W ((((W.setCell ⟨b, 0, none⟩ y0).setCell ⟨b, 1, none⟩ y1).setCell ⟨b, 2, none⟩ y2).setCell ⟨b, 3, none⟩ y3) := by
  refine ⟨by simp [World.setCell], fun k c ty fz hk hs => ?_⟩
  have hne : k ≠ b := by
    rintro rfl
    rw [show W.heap[k]? = _ from h] at hk
    cases hk; exact hs rfl
  rw [Below.heap_setCell _ _ _ _ hne, Below.heap_setCell _ _ _ _ hne, Below.heap_setCell _ _ _ _ hne, Below.heap_setCell _ _ _ _ hne]
  exact hk

set_option maxRecDepth 100000 in
set_option maxHeartbeats 8000000 in
theorem readRelation_any (g off cap : Nat) (ts : List Tok) (v : Value) (w : World) (hv : TokV w g off cap ts v) (ht : Tks ts) (he : Evs w) (hl : ts.length ≤ 1024) :
    Calls Tryz.prog 250 #[v] w (Ans (relT ts) (IsRel w.heap.size) w) := by
  obtain rfl : v = .slice (some ⟨g, off, none⟩) ts.length cap := hv.1
  obtain ⟨RR, hRR⟩ : ∃ RR, RR = relT ts := ⟨_, rfl⟩
  rw [← hRR]
  have HRR := hide hRR
  clear hRR
  obtain ⟨W0, hW0⟩ : ∃ W0, W0 = w.alloc (.cells #[.int .u8 0, .int .i64 0, .bool false, .slice none 0 0] 229) := ⟨_, rfl⟩
  have BR := hide (Blk.newAt w w.heap.size rfl #[.int .u8 0, .int .i64 0, .bool false, .slice none 0 0] 229)
  have HB : Hid (Below w.heap.size w (w.alloc (.cells #[.int .u8 0, .int .i64 0, .bool false, .slice none 0 0] 229))) := (Below.refl w.heap.size w).alloc (Nat.le_refl _) _
  have HWS : Hid (w.heap.size ≤ W0.heap.size) := by show _ ≤ _; rw [hW0]; simp
  rw [← hW0] at BR HB
  have HE := hide (he.below HB.out)
  have HT := hide (hv.below HB.out)
  have hcap : ts.length ≤ cap := hv.2.1
  have hcm : cap ≤ 9223372036854775807 := hv.2.2.1
  have HC := hide (fun i t (h : ts[i]? = some t) => HT.out.cell i t h)
  obtain ⟨n, hnl⟩ : ∃ n, n = ts.length := ⟨_, rfl⟩
  have HNL := hide hnl
  rw [← hnl] at hcap hl HT ⊢
  clear hv he hnl
  go_enter Tryz.func250, Tryz.ntmps250
  go_wp2
  rw [← hW0]
  clear hW0
  go_loopw [7] (fun q wr => ∃ i : Nat, q = .int .i64 (i : Int) ∧ i ≤ n ∧ wr = W0 ∧ Hid (∀ j u, j < i → ts[j]? = some u → isEq u = false)) (fun q _ => n - (intOf q).toNat)
  case atStart => exact ⟨0, rfl, Nat.zero_le _, rfl, fun j u h _ => by omega⟩
  case round =>
    obtain ⟨i, rfl, hi, hw, HNE⟩ := hrel
    replace hw := hw.symm
    subst hw
    have hnl' := HNL.out
    have hnl := hnl'.symm
    by_cases hlt : i < n
    · have hlt' : (i : Int) < (n : Int) := by omega
      obtain ⟨t, ht'⟩ : ∃ t, ts[i]? = some t := ⟨_, List.getElem?_eq_getElem (by omega)⟩
      have c3 := HC.out i t ht'
      by_cases hs : t = [61]
      · subst hs
        rw [show mkB [61] = ⟨#[61]⟩ from rfl] at c3
        obtain ⟨hr1, hr2⟩ := rel_at ht' HNE.out (by decide)
        have TA := HT.out.cut 0 i (Nat.zero_le _) (by omega)
        have TB := HT.out.cut (i + 1) n (by omega) (by omega)
        rw [show cutA off cap 0 = off from by unfold cutA; split <;> simp, Nat.sub_zero, Nat.sub_zero, List.drop_zero] at TA
        rw [hnl', List.take_length] at TB
        have KA := ht.cut 0 i
        have KB := ht.cut (i + 1) n
        rw [List.drop_zero] at KA
        rw [hnl', List.take_length] at KB
        have LB : (ts.drop (i + 1)).length ≤ 1024 := by simp; omega
        have b0 : Hid (Below W0.heap.size W0 W0.drew) := bdrewD W0
        have hspec : relT ts = match exprT (ts.take i), (splitT [44] (ts.drop (i + 1))).mapM rangeT with | some x, some rs => some ⟨x.1, x.2, false, rs⟩ | _, _ => none := by
          unfold relT
          rw [hr1, hr2]
          rfl
        by_cases hcp : i + 1 = cap
        · have hz2 : n - (i + 1) = 0 := by omega
          have hz3 : cap - (i + 1) = 0 := by omega
          rw [show cutA off cap (i + 1) = off from if_pos hcp, hnl, hz2, hz3] at TB
          have hlt2 : ¬ ((i : Int) + 1) < (cap : Int) := by omega
          have hle2 : ((i : Int) + 1) ≤ (n : Int) := by omega
          have hn' : n = i + 1 := by omega
          have hcap' : cap = i + 1 := by omega
          cases hx : exprT (ts.take i) with
          | none =>
            have CX : Hid (∀ X, Hid (Below W0.heap.size W0 X) → Calls Tryz.prog 279 #[.slice (some ⟨g, off, none⟩) i cap] X fun e w' => e = .panicked PC ∧ Hid (Below W0.heap.size W0 w')) := by
              intro X bX
              have h := readExpr_any g off cap _ _ X (TA.below bX.out) KA (HE.out.below bX.out)
              rw [hx] at h
              refine h.mono ?_
              rintro e w' ⟨hb, rfl⟩
              exact ⟨rfl, bX.out.trans (hb.mono bX.out.size)⟩
            have HREL : Hid (RR = none) := by show RR = none; rw [HRR.out, hspec, hx]
            clear TA TB KA KB LB HE hspec hr1 hr2 ht' HT hnl hnl'
            clear hcp hz2 hz3
            subst hn'
            subst hcap'
            have hic : ¬ (i + 1) < i := by omega
            have hwr : IntKind.i64.wrap ((i : Int) + 1) = (i : Int) + 1 := by rw [IntKind.wrap_i64]; omega
            have h01 : (0 : Int) ≤ (i : Int) + 1 := by omega
            have hic2 : ¬ (i : Int) + 1 < (i : Int) := by omega
            clear hx HRR
            go_wp2_with fail
            refine wp_region_held_drew (S := fun _ => True) (by kernel_rfl) trivial (fun _ => ?_)
            refine wpAnyH_take (i := 0) (oi := Oper.mk (some 18) _ _ _ _ _) (v := .slice (some ⟨g, off, none⟩) (i + 1) (i + 1)) rfl (by kernel_rfl) (by kernel_rfl) (by kernel_rfl) (fun _ _ _ h => h) (Or.inl ⟨by rfl, ?_⟩) trivial ?_
            · intro wX _
              go_simp
            simp only [Act.put, List.setIfInBounds_toArray, List.set_cons_succ, List.set_cons_zero]
            refine wpAnyH_take (i := 1) (oi := Oper.mk (some 19) _ _ _ _ _) (v := .int .i64 (i : Int)) rfl (by kernel_rfl) (by kernel_rfl) (by kernel_rfl) (fun _ _ _ h => h) (Or.inl ⟨by rfl, ?_⟩) trivial ?_
            · intro wX _
              go_simp
            simp only [Act.put, List.setIfInBounds_toArray, List.set_cons_succ, List.set_cons_zero]
            refine wpAnyH_take (i := 2) (oi := Oper.mk (some 20) _ _ _ _ _) (v := .slice (some ⟨g, off, none⟩) i (i + 1)) rfl (by kernel_rfl) (by kernel_rfl) (by kernel_rfl) (fun _ _ _ h => h) (Or.inl ⟨by rfl, ?_⟩) trivial ?_
            · intro wX _
              go_simp
            simp only [Act.put, List.setIfInBounds_toArray, List.set_cons_succ, List.set_cons_zero]
            refine wpAnyH_take (i := 4) (oi := Oper.mk (some 22) _ _ _ _ _) (v := .string ⟨#[61]⟩) rfl (by kernel_rfl) (by kernel_rfl) (by kernel_rfl) (fun _ _ _ h => h) (Or.inl ⟨by rfl, ?_⟩) trivial ?_
            · intro wX _
              go_simp
            simp only [Act.put, List.setIfInBounds_toArray, List.set_cons_succ, List.set_cons_zero]
            refine wpAnyH_take (i := 5) (oi := Oper.mk (some 23) _ _ _ _ _) (v := .bool false) rfl (by kernel_rfl) (by kernel_rfl) (by kernel_rfl) (fun _ _ _ h => h) (Or.inl ⟨by rfl, ?_⟩) trivial ?_
            · intro wX _
              go_simp
            simp only [Act.put, List.setIfInBounds_toArray, List.set_cons_succ, List.set_cons_zero]
            refine wpAnyH_take (i := 6) (oi := Oper.mk (some 24) _ _ _ _ _) (v := .slice (some ⟨g, off, none⟩) (i + 1) (i + 1)) rfl (by kernel_rfl) (by kernel_rfl) (by kernel_rfl) (fun _ _ _ h => h) (Or.inl ⟨by rfl, ?_⟩) trivial ?_
            · intro wX _
              go_simp
            simp only [Act.put, List.setIfInBounds_toArray, List.set_cons_succ, List.set_cons_zero]
            refine wpAnyH_take (i := 7) (oi := Oper.mk (some 25) _ _ _ _ _) (v := .int .i64 (i : Int)) rfl (by kernel_rfl) (by kernel_rfl) (by kernel_rfl) (fun _ _ _ h => h) (Or.inl ⟨by rfl, ?_⟩) trivial ?_
            · intro wX _
              go_simp
            simp only [Act.put, List.setIfInBounds_toArray, List.set_cons_succ, List.set_cons_zero]
            refine wpAnyH_take (i := 8) (oi := Oper.mk (some 26) _ _ _ _ _) (v := .int .i64 ((i : Int) + 1)) rfl (by kernel_rfl) (by kernel_rfl) (by kernel_rfl) (fun _ _ _ h => h) (Or.inl ⟨by rfl, ?_⟩) trivial ?_
            · intro wX _
              go_simp
            simp only [Act.put, List.setIfInBounds_toArray, List.set_cons_succ, List.set_cons_zero]
            refine wpAnyH_take (i := 9) (oi := Oper.mk (some 27) _ _ _ _ _) (v := .slice (some ⟨g, off, none⟩) 0 0) rfl (by kernel_rfl) (by kernel_rfl) (by kernel_rfl) (fun _ _ _ h => h) (Or.inl ⟨by rfl, ?_⟩) trivial ?_
            · intro wX _
              go_simp
            simp only [Act.put, List.setIfInBounds_toArray, List.set_cons_succ, List.set_cons_zero]
            refine wpAnyH_ready (rs := [3]) (by kernel_rfl) (by simp) ?_
            refine AllReadyH.cons (o := Oper.mk (some 21) _ _ _ _ _) rfl (fun K hK => ?_) AllReadyH.nil
            go_simp
            refine (CX.out _ b0).mono ?_
            rintro e v1 ⟨rfl, b1⟩
            exact ⟨rfl, Ans.panic HREL.out (HB.out.trans (b1.out.mono HB.out.size))⟩
          | some xx =>
            obtain ⟨xo, xd⟩ := xx
            have CX : Hid (∀ X, Hid (Below W0.heap.size W0 X) → Calls Tryz.prog 279 #[.slice (some ⟨g, off, none⟩) i cap] X fun e w' => e = .returned (.agg #[.int .u8 (xo.toNat : Int), .int .i64 (xd : Int)]) ∧ Hid (Below W0.heap.size W0 w')) := by
              intro X bX
              have h := readExpr_any g off cap _ _ X (TA.below bX.out) KA (HE.out.below bX.out)
              rw [hx] at h
              refine h.mono ?_
              rintro e w' ⟨hb, v', rfl, rfl⟩
              exact ⟨rfl, bX.out.trans (hb.mono bX.out.size)⟩
            cases hr : (splitT [44] (ts.drop (i + 1))).mapM rangeT with
            | none =>
              have CR : Hid (∀ X, Hid (Below W0.heap.size W0 X) → Calls Tryz.prog 280 #[.slice (some ⟨g, off, none⟩) 0 0] X fun e w' => e = .panicked PC ∧ Hid (Below W0.heap.size W0 w')) := by
                intro X bX
                have h := readRanges_any g _ _ _ _ X (TB.below bX.out) KB (HE.out.below bX.out) LB
                rw [hr] at h
                refine h.mono ?_
                rintro e w' ⟨hb, rfl⟩
                exact ⟨rfl, bX.out.trans (hb.mono bX.out.size)⟩
              have HREL : Hid (RR = none) := by show RR = none; rw [HRR.out, hspec, hx, hr]
              clear TA TB KA KB LB HE hspec hr1 hr2 ht' HT hnl hnl'
              clear hcp hz2 hz3
              subst hn'
              subst hcap'
              have hic : ¬ (i + 1) < i := by omega
              have hwr : IntKind.i64.wrap ((i : Int) + 1) = (i : Int) + 1 := by rw [IntKind.wrap_i64]; omega
              have h01 : (0 : Int) ≤ (i : Int) + 1 := by omega
              have hic2 : ¬ (i : Int) + 1 < (i : Int) := by omega
              clear hx hr HRR
              go_wp2_with fail
              refine wp_region_held_drew (S := fun _ => True) (by kernel_rfl) trivial (fun _ => ?_)
              refine wpAnyH_take (i := 0) (oi := Oper.mk (some 18) _ _ _ _ _) (v := .slice (some ⟨g, off, none⟩) (i + 1) (i + 1)) rfl (by kernel_rfl) (by kernel_rfl) (by kernel_rfl) (fun _ _ _ h => h) (Or.inl ⟨by rfl, ?_⟩) trivial ?_
              · intro wX _
                go_simp
              simp only [Act.put, List.setIfInBounds_toArray, List.set_cons_succ, List.set_cons_zero]
              refine wpAnyH_take (i := 1) (oi := Oper.mk (some 19) _ _ _ _ _) (v := .int .i64 (i : Int)) rfl (by kernel_rfl) (by kernel_rfl) (by kernel_rfl) (fun _ _ _ h => h) (Or.inl ⟨by rfl, ?_⟩) trivial ?_
              · intro wX _
                go_simp
              simp only [Act.put, List.setIfInBounds_toArray, List.set_cons_succ, List.set_cons_zero]
              refine wpAnyH_take (i := 2) (oi := Oper.mk (some 20) _ _ _ _ _) (v := .slice (some ⟨g, off, none⟩) i (i + 1)) rfl (by kernel_rfl) (by kernel_rfl) (by kernel_rfl) (fun _ _ _ h => h) (Or.inl ⟨by rfl, ?_⟩) trivial ?_
              · intro wX _
                go_simp
              simp only [Act.put, List.setIfInBounds_toArray, List.set_cons_succ, List.set_cons_zero]
              refine wpAnyH_take (i := 4) (oi := Oper.mk (some 22) _ _ _ _ _) (v := .string ⟨#[61]⟩) rfl (by kernel_rfl) (by kernel_rfl) (by kernel_rfl) (fun _ _ _ h => h) (Or.inl ⟨by rfl, ?_⟩) trivial ?_
              · intro wX _
                go_simp
              simp only [Act.put, List.setIfInBounds_toArray, List.set_cons_succ, List.set_cons_zero]
              refine wpAnyH_take (i := 5) (oi := Oper.mk (some 23) _ _ _ _ _) (v := .bool false) rfl (by kernel_rfl) (by kernel_rfl) (by kernel_rfl) (fun _ _ _ h => h) (Or.inl ⟨by rfl, ?_⟩) trivial ?_
              · intro wX _
                go_simp
              simp only [Act.put, List.setIfInBounds_toArray, List.set_cons_succ, List.set_cons_zero]
              refine wpAnyH_take (i := 6) (oi := Oper.mk (some 24) _ _ _ _ _) (v := .slice (some ⟨g, off, none⟩) (i + 1) (i + 1)) rfl (by kernel_rfl) (by kernel_rfl) (by kernel_rfl) (fun _ _ _ h => h) (Or.inl ⟨by rfl, ?_⟩) trivial ?_
              · intro wX _
                go_simp
              simp only [Act.put, List.setIfInBounds_toArray, List.set_cons_succ, List.set_cons_zero]
              refine wpAnyH_take (i := 7) (oi := Oper.mk (some 25) _ _ _ _ _) (v := .int .i64 (i : Int)) rfl (by kernel_rfl) (by kernel_rfl) (by kernel_rfl) (fun _ _ _ h => h) (Or.inl ⟨by rfl, ?_⟩) trivial ?_
              · intro wX _
                go_simp
              simp only [Act.put, List.setIfInBounds_toArray, List.set_cons_succ, List.set_cons_zero]
              refine wpAnyH_take (i := 8) (oi := Oper.mk (some 26) _ _ _ _ _) (v := .int .i64 ((i : Int) + 1)) rfl (by kernel_rfl) (by kernel_rfl) (by kernel_rfl) (fun _ _ _ h => h) (Or.inl ⟨by rfl, ?_⟩) trivial ?_
              · intro wX _
                go_simp
              simp only [Act.put, List.setIfInBounds_toArray, List.set_cons_succ, List.set_cons_zero]
              refine wpAnyH_take (i := 9) (oi := Oper.mk (some 27) _ _ _ _ _) (v := .slice (some ⟨g, off, none⟩) 0 0) rfl (by kernel_rfl) (by kernel_rfl) (by kernel_rfl) (fun _ _ _ h => h) (Or.inl ⟨by rfl, ?_⟩) trivial ?_
              · intro wX _
                go_simp
              simp only [Act.put, List.setIfInBounds_toArray, List.set_cons_succ, List.set_cons_zero]
              refine wpAnyH_ready (rs := [3]) (by kernel_rfl) (by simp) ?_
              refine AllReadyH.cons (o := Oper.mk (some 21) _ _ _ _ _) rfl (fun K hK => ?_) AllReadyH.nil
              go_simp
              refine (CX.out _ b0).mono ?_
              rintro e v1 ⟨rfl, b1⟩
              refine hK.out _ _ trivial (fun _ => ?_)
              clear hK K
              refine wpAnyH_ready (rs := [10]) (by kernel_rfl) (by simp) ?_
              refine AllReadyH.cons (o := Oper.mk (some 28) _ _ _ _ _) rfl (fun K hK => ?_) AllReadyH.nil
              go_simp
              refine (CR.out _ b1).mono ?_
              rintro e v2 ⟨rfl, b2⟩
              exact ⟨rfl, Ans.panic HREL.out (HB.out.trans (b2.out.mono HB.out.size))⟩
            | some rs =>
              have CR : Hid (∀ X, Hid (Below W0.heap.size W0 X) → Calls Tryz.prog 280 #[.slice (some ⟨g, off, none⟩) 0 0] X fun e w' => (∃ sa sn sc, e = .returned (.slice sa sn sc) ∧ Hid (Lst W0.heap.size 303 2 ElRange rs (.slice sa sn sc) w')) ∧ Hid (Below W0.heap.size W0 w')) := by
                intro X bX
                have h := readRanges_any g _ _ _ _ X (TB.below bX.out) KB (HE.out.below bX.out) LB
                rw [hr] at h
                refine h.mono ?_
                rintro e w' ⟨hb, v', rfl, hv'⟩
                obtain ⟨sa, sn, sc, rfl⟩ := Lst.slice hv'
                exact ⟨⟨sa, sn, sc, rfl, Lst.low hv' bX.out.size (fun _ _ h => h)⟩, bX.out.trans (hb.mono bX.out.size)⟩
              have HREL : Hid (RR = some (RelT.mk xo xd false rs)) := by show RR = _; rw [HRR.out, hspec, hx, hr]
              clear TA TB KA KB LB HE hspec hr1 hr2 ht' HT hnl hnl'
              clear hcp hz2 hz3
              subst hn'
              subst hcap'
              have hic : ¬ (i + 1) < i := by omega
              have hwr : IntKind.i64.wrap ((i : Int) + 1) = (i : Int) + 1 := by rw [IntKind.wrap_i64]; omega
              have h01 : (0 : Int) ≤ (i : Int) + 1 := by omega
              have hic2 : ¬ (i : Int) + 1 < (i : Int) := by omega
              clear hx hr HRR
              go_wp2_with fail
              refine wp_region_held_drew (S := fun _ => True) (by kernel_rfl) trivial (fun _ => ?_)
              refine wpAnyH_take (i := 0) (oi := Oper.mk (some 18) _ _ _ _ _) (v := .slice (some ⟨g, off, none⟩) (i + 1) (i + 1)) rfl (by kernel_rfl) (by kernel_rfl) (by kernel_rfl) (fun _ _ _ h => h) (Or.inl ⟨by rfl, ?_⟩) trivial ?_
              · intro wX _
                go_simp
              simp only [Act.put, List.setIfInBounds_toArray, List.set_cons_succ, List.set_cons_zero]
              refine wpAnyH_take (i := 1) (oi := Oper.mk (some 19) _ _ _ _ _) (v := .int .i64 (i : Int)) rfl (by kernel_rfl) (by kernel_rfl) (by kernel_rfl) (fun _ _ _ h => h) (Or.inl ⟨by rfl, ?_⟩) trivial ?_
              · intro wX _
                go_simp
              simp only [Act.put, List.setIfInBounds_toArray, List.set_cons_succ, List.set_cons_zero]
              refine wpAnyH_take (i := 2) (oi := Oper.mk (some 20) _ _ _ _ _) (v := .slice (some ⟨g, off, none⟩) i (i + 1)) rfl (by kernel_rfl) (by kernel_rfl) (by kernel_rfl) (fun _ _ _ h => h) (Or.inl ⟨by rfl, ?_⟩) trivial ?_
              · intro wX _
                go_simp
              simp only [Act.put, List.setIfInBounds_toArray, List.set_cons_succ, List.set_cons_zero]
              refine wpAnyH_take (i := 4) (oi := Oper.mk (some 22) _ _ _ _ _) (v := .string ⟨#[61]⟩) rfl (by kernel_rfl) (by kernel_rfl) (by kernel_rfl) (fun _ _ _ h => h) (Or.inl ⟨by rfl, ?_⟩) trivial ?_
              · intro wX _
                go_simp
              simp only [Act.put, List.setIfInBounds_toArray, List.set_cons_succ, List.set_cons_zero]
              refine wpAnyH_take (i := 5) (oi := Oper.mk (some 23) _ _ _ _ _) (v := .bool false) rfl (by kernel_rfl) (by kernel_rfl) (by kernel_rfl) (fun _ _ _ h => h) (Or.inl ⟨by rfl, ?_⟩) trivial ?_
              · intro wX _
                go_simp
              simp only [Act.put, List.setIfInBounds_toArray, List.set_cons_succ, List.set_cons_zero]
              refine wpAnyH_take (i := 6) (oi := Oper.mk (some 24) _ _ _ _ _) (v := .slice (some ⟨g, off, none⟩) (i + 1) (i + 1)) rfl (by kernel_rfl) (by kernel_rfl) (by kernel_rfl) (fun _ _ _ h => h) (Or.inl ⟨by rfl, ?_⟩) trivial ?_
              · intro wX _
                go_simp
              simp only [Act.put, List.setIfInBounds_toArray, List.set_cons_succ, List.set_cons_zero]
              refine wpAnyH_take (i := 7) (oi := Oper.mk (some 25) _ _ _ _ _) (v := .int .i64 (i : Int)) rfl (by kernel_rfl) (by kernel_rfl) (by kernel_rfl) (fun _ _ _ h => h) (Or.inl ⟨by rfl, ?_⟩) trivial ?_
              · intro wX _
                go_simp
              simp only [Act.put, List.setIfInBounds_toArray, List.set_cons_succ, List.set_cons_zero]
              refine wpAnyH_take (i := 8) (oi := Oper.mk (some 26) _ _ _ _ _) (v := .int .i64 ((i : Int) + 1)) rfl (by kernel_rfl) (by kernel_rfl) (by kernel_rfl) (fun _ _ _ h => h) (Or.inl ⟨by rfl, ?_⟩) trivial ?_
              · intro wX _
                go_simp
              simp only [Act.put, List.setIfInBounds_toArray, List.set_cons_succ, List.set_cons_zero]
              refine wpAnyH_take (i := 9) (oi := Oper.mk (some 27) _ _ _ _ _) (v := .slice (some ⟨g, off, none⟩) 0 0) rfl (by kernel_rfl) (by kernel_rfl) (by kernel_rfl) (fun _ _ _ h => h) (Or.inl ⟨by rfl, ?_⟩) trivial ?_
              · intro wX _
                go_simp
              simp only [Act.put, List.setIfInBounds_toArray, List.set_cons_succ, List.set_cons_zero]
              refine wpAnyH_ready (rs := [3]) (by kernel_rfl) (by simp) ?_
              refine AllReadyH.cons (o := Oper.mk (some 21) _ _ _ _ _) rfl (fun K hK => ?_) AllReadyH.nil
              go_simp
              refine (CX.out _ b0).mono ?_
              rintro e v1 ⟨rfl, b1⟩
              refine hK.out _ _ trivial (fun _ => ?_)
              clear hK K
              refine wpAnyH_ready (rs := [10]) (by kernel_rfl) (by simp) ?_
              refine AllReadyH.cons (o := Oper.mk (some 28) _ _ _ _ _) rfl (fun K hK => ?_) AllReadyH.nil
              go_simp
              refine (CR.out _ b1).mono ?_
              rintro e v2 ⟨⟨sa, sn, sc, rfl, HSV⟩, b2⟩
              have BR1 := Blk.on BR b2.out
              have HB1 := hide (HB.out.trans (b2.out.mono HB.out.size))
              obtain ⟨f0, f1, f2, f3⟩ : v2.frozen? ⟨w.heap.size, 0, none⟩ = false ∧ v2.frozen? ⟨w.heap.size, 1, none⟩ = false ∧ v2.frozen? ⟨w.heap.size, 2, none⟩ = false ∧ v2.frozen? ⟨w.heap.size, 3, none⟩ = false := ⟨BR1.out.free 0, BR1.out.free 1, BR1.out.free 2, BR1.out.free 3⟩
              obtain ⟨c0, c1, c2, c3⟩ := BR1.out.four
              refine hK.out _ _ trivial (fun _ => ?_)
              clear hK K
              refine wpAnyH_take (i := 11) (oi := Oper.mk (some 29) _ _ _ _ _) (v := .agg #[.int .u8 (xo.toNat : Int), .int .i64 (xd : Int), .bool false, .slice sa sn sc]) rfl (by kernel_rfl) (by kernel_rfl) (by kernel_rfl) (fun _ _ _ h => h) (Or.inl ⟨by rfl, ?_⟩) trivial ?_
              · intro wX _
                go_simp
              simp only [Act.put, List.setIfInBounds_toArray, List.set_cons_succ, List.set_cons_zero]
              refine wpAnyH_ready (rs := [12]) (by kernel_rfl) (by simp) ?_
              refine AllReadyH.cons (o := Oper.mk none _ _ _ _ _) rfl (fun K hK => ?_) AllReadyH.nil
              go_simp
              refine hK.out _ _ trivial (fun _ => ?_)
              clear hK K
              refine wpAnyH_done (by kernel_rfl) ?_ _
              go_wp2
              refine bodyPost_ret (results_rel rfl _ _ _ _ _ _ _ rfl (BR1.out.put4 _ _ _ _)) rfl ?_
              refine Ans.ret HREL.out (below_put4 HB1.out (Nat.le_refl _) _ _ _ _) ⟨.slice sa sn sc, rfl, ?_⟩
              exact (HSV.out.kt (S := fun ty => ty ≠ 229) (kt_put4 BR1.out _ _ _ _) (by decide) (fun _ _ h => h)).low HWS.out (fun _ _ h => h)
        · rw [show cutA off cap (i + 1) = off + (i + 1) from if_neg hcp, hnl] at TB
          have hlt2 : ((i : Int) + 1) < (cap : Int) := by omega
          have hle2 : ((i : Int) + 1) ≤ (n : Int) := by omega
          cases hx : exprT (ts.take i) with
          | none =>
            have CX : Hid (∀ X, Hid (Below W0.heap.size W0 X) → Calls Tryz.prog 279 #[.slice (some ⟨g, off, none⟩) i cap] X fun e w' => e = .panicked PC ∧ Hid (Below W0.heap.size W0 w')) := by
              intro X bX
              have h := readExpr_any g off cap _ _ X (TA.below bX.out) KA (HE.out.below bX.out)
              rw [hx] at h
              refine h.mono ?_
              rintro e w' ⟨hb, rfl⟩
              exact ⟨rfl, bX.out.trans (hb.mono bX.out.size)⟩
            have HREL : Hid (RR = none) := by show RR = none; rw [HRR.out, hspec, hx]
            clear TA TB KA KB LB HE hspec hr1 hr2 ht' HT hnl hnl'
            have hic : ¬ cap < i := by omega
            have hwr : IntKind.i64.wrap ((i : Int) + 1) = (i : Int) + 1 := by rw [IntKind.wrap_i64]; omega
            have h01 : (0 : Int) ≤ (i : Int) + 1 := by omega
            have hic2 : ¬ (i : Int) + 1 < (i : Int) := by omega
            have hcp2 : ¬ cap = i + 1 := fun h => hcp h.symm
            clear hx HRR
            go_wp2_with fail
            refine wp_region_held_drew (S := fun _ => True) (by kernel_rfl) trivial (fun _ => ?_)
            refine wpAnyH_take (i := 0) (oi := Oper.mk (some 18) _ _ _ _ _) (v := .slice (some ⟨g, off, none⟩) n cap) rfl (by kernel_rfl) (by kernel_rfl) (by kernel_rfl) (fun _ _ _ h => h) (Or.inl ⟨by rfl, ?_⟩) trivial ?_
            · intro wX _
              go_simp
            simp only [Act.put, List.setIfInBounds_toArray, List.set_cons_succ, List.set_cons_zero]
            refine wpAnyH_take (i := 1) (oi := Oper.mk (some 19) _ _ _ _ _) (v := .int .i64 (i : Int)) rfl (by kernel_rfl) (by kernel_rfl) (by kernel_rfl) (fun _ _ _ h => h) (Or.inl ⟨by rfl, ?_⟩) trivial ?_
            · intro wX _
              go_simp
            simp only [Act.put, List.setIfInBounds_toArray, List.set_cons_succ, List.set_cons_zero]
            refine wpAnyH_take (i := 2) (oi := Oper.mk (some 20) _ _ _ _ _) (v := .slice (some ⟨g, off, none⟩) i cap) rfl (by kernel_rfl) (by kernel_rfl) (by kernel_rfl) (fun _ _ _ h => h) (Or.inl ⟨by rfl, ?_⟩) trivial ?_
            · intro wX _
              go_simp
            simp only [Act.put, List.setIfInBounds_toArray, List.set_cons_succ, List.set_cons_zero]
            refine wpAnyH_take (i := 4) (oi := Oper.mk (some 22) _ _ _ _ _) (v := .string ⟨#[61]⟩) rfl (by kernel_rfl) (by kernel_rfl) (by kernel_rfl) (fun _ _ _ h => h) (Or.inl ⟨by rfl, ?_⟩) trivial ?_
            · intro wX _
              go_simp
            simp only [Act.put, List.setIfInBounds_toArray, List.set_cons_succ, List.set_cons_zero]
            refine wpAnyH_take (i := 5) (oi := Oper.mk (some 23) _ _ _ _ _) (v := .bool false) rfl (by kernel_rfl) (by kernel_rfl) (by kernel_rfl) (fun _ _ _ h => h) (Or.inl ⟨by rfl, ?_⟩) trivial ?_
            · intro wX _
              go_simp
            simp only [Act.put, List.setIfInBounds_toArray, List.set_cons_succ, List.set_cons_zero]
            refine wpAnyH_take (i := 6) (oi := Oper.mk (some 24) _ _ _ _ _) (v := .slice (some ⟨g, off, none⟩) n cap) rfl (by kernel_rfl) (by kernel_rfl) (by kernel_rfl) (fun _ _ _ h => h) (Or.inl ⟨by rfl, ?_⟩) trivial ?_
            · intro wX _
              go_simp
            simp only [Act.put, List.setIfInBounds_toArray, List.set_cons_succ, List.set_cons_zero]
            refine wpAnyH_take (i := 7) (oi := Oper.mk (some 25) _ _ _ _ _) (v := .int .i64 (i : Int)) rfl (by kernel_rfl) (by kernel_rfl) (by kernel_rfl) (fun _ _ _ h => h) (Or.inl ⟨by rfl, ?_⟩) trivial ?_
            · intro wX _
              go_simp
            simp only [Act.put, List.setIfInBounds_toArray, List.set_cons_succ, List.set_cons_zero]
            refine wpAnyH_take (i := 8) (oi := Oper.mk (some 26) _ _ _ _ _) (v := .int .i64 ((i : Int) + 1)) rfl (by kernel_rfl) (by kernel_rfl) (by kernel_rfl) (fun _ _ _ h => h) (Or.inl ⟨by rfl, ?_⟩) trivial ?_
            · intro wX _
              go_simp
            simp only [Act.put, List.setIfInBounds_toArray, List.set_cons_succ, List.set_cons_zero]
            refine wpAnyH_take (i := 9) (oi := Oper.mk (some 27) _ _ _ _ _) (v := .slice (some ⟨g, off + (i + 1), none⟩) (n - (i + 1)) (cap - (i + 1))) rfl (by kernel_rfl) (by kernel_rfl) (by kernel_rfl) (fun _ _ _ h => h) (Or.inl ⟨by rfl, ?_⟩) trivial ?_
            · intro wX _
              go_simp
            simp only [Act.put, List.setIfInBounds_toArray, List.set_cons_succ, List.set_cons_zero]
            refine wpAnyH_ready (rs := [3]) (by kernel_rfl) (by simp) ?_
            refine AllReadyH.cons (o := Oper.mk (some 21) _ _ _ _ _) rfl (fun K hK => ?_) AllReadyH.nil
            go_simp
            refine (CX.out _ b0).mono ?_
            rintro e v1 ⟨rfl, b1⟩
            exact ⟨rfl, Ans.panic HREL.out (HB.out.trans (b1.out.mono HB.out.size))⟩
          | some xx =>
            obtain ⟨xo, xd⟩ := xx
            have CX : Hid (∀ X, Hid (Below W0.heap.size W0 X) → Calls Tryz.prog 279 #[.slice (some ⟨g, off, none⟩) i cap] X fun e w' => e = .returned (.agg #[.int .u8 (xo.toNat : Int), .int .i64 (xd : Int)]) ∧ Hid (Below W0.heap.size W0 w')) := by
              intro X bX
              have h := readExpr_any g off cap _ _ X (TA.below bX.out) KA (HE.out.below bX.out)
              rw [hx] at h
              refine h.mono ?_
              rintro e w' ⟨hb, v', rfl, rfl⟩
              exact ⟨rfl, bX.out.trans (hb.mono bX.out.size)⟩
            cases hr : (splitT [44] (ts.drop (i + 1))).mapM rangeT with
            | none =>
              have CR : Hid (∀ X, Hid (Below W0.heap.size W0 X) → Calls Tryz.prog 280 #[.slice (some ⟨g, off + (i + 1), none⟩) (n - (i + 1)) (cap - (i + 1))] X fun e w' => e = .panicked PC ∧ Hid (Below W0.heap.size W0 w')) := by
                intro X bX
                have h := readRanges_any g _ _ _ _ X (TB.below bX.out) KB (HE.out.below bX.out) LB
                rw [hr] at h
                refine h.mono ?_
                rintro e w' ⟨hb, rfl⟩
                exact ⟨rfl, bX.out.trans (hb.mono bX.out.size)⟩
              have HREL : Hid (RR = none) := by show RR = none; rw [HRR.out, hspec, hx, hr]
              clear TA TB KA KB LB HE hspec hr1 hr2 ht' HT hnl hnl'
              have hic : ¬ cap < i := by omega
              have hwr : IntKind.i64.wrap ((i : Int) + 1) = (i : Int) + 1 := by rw [IntKind.wrap_i64]; omega
              have h01 : (0 : Int) ≤ (i : Int) + 1 := by omega
              have hic2 : ¬ (i : Int) + 1 < (i : Int) := by omega
              have hcp2 : ¬ cap = i + 1 := fun h => hcp h.symm
              clear hx hr HRR
              go_wp2_with fail
              refine wp_region_held_drew (S := fun _ => True) (by kernel_rfl) trivial (fun _ => ?_)
              refine wpAnyH_take (i := 0) (oi := Oper.mk (some 18) _ _ _ _ _) (v := .slice (some ⟨g, off, none⟩) n cap) rfl (by kernel_rfl) (by kernel_rfl) (by kernel_rfl) (fun _ _ _ h => h) (Or.inl ⟨by rfl, ?_⟩) trivial ?_
              · intro wX _
                go_simp
              simp only [Act.put, List.setIfInBounds_toArray, List.set_cons_succ, List.set_cons_zero]
              refine wpAnyH_take (i := 1) (oi := Oper.mk (some 19) _ _ _ _ _) (v := .int .i64 (i : Int)) rfl (by kernel_rfl) (by kernel_rfl) (by kernel_rfl) (fun _ _ _ h => h) (Or.inl ⟨by rfl, ?_⟩) trivial ?_
              · intro wX _
                go_simp
              simp only [Act.put, List.setIfInBounds_toArray, List.set_cons_succ, List.set_cons_zero]
              refine wpAnyH_take (i := 2) (oi := Oper.mk (some 20) _ _ _ _ _) (v := .slice (some ⟨g, off, none⟩) i cap) rfl (by kernel_rfl) (by kernel_rfl) (by kernel_rfl) (fun _ _ _ h => h) (Or.inl ⟨by rfl, ?_⟩) trivial ?_
              · intro wX _
                go_simp
              simp only [Act.put, List.setIfInBounds_toArray, List.set_cons_succ, List.set_cons_zero]
              refine wpAnyH_take (i := 4) (oi := Oper.mk (some 22) _ _ _ _ _) (v := .string ⟨#[61]⟩) rfl (by kernel_rfl) (by kernel_rfl) (by kernel_rfl) (fun _ _ _ h => h) (Or.inl ⟨by rfl, ?_⟩) trivial ?_
              · intro wX _
                go_simp
              simp only [Act.put, List.setIfInBounds_toArray, List.set_cons_succ, List.set_cons_zero]
              refine wpAnyH_take (i := 5) (oi := Oper.mk (some 23) _ _ _ _ _) (v := .bool false) rfl (by kernel_rfl) (by kernel_rfl) (by kernel_rfl) (fun _ _ _ h => h) (Or.inl ⟨by rfl, ?_⟩) trivial ?_
              · intro wX _
                go_simp
              simp only [Act.put, List.setIfInBounds_toArray, List.set_cons_succ, List.set_cons_zero]
              refine wpAnyH_take (i := 6) (oi := Oper.mk (some 24) _ _ _ _ _) (v := .slice (some ⟨g, off, none⟩) n cap) rfl (by kernel_rfl) (by kernel_rfl) (by kernel_rfl) (fun _ _ _ h => h) (Or.inl ⟨by rfl, ?_⟩) trivial ?_
              · intro wX _
                go_simp
              simp only [Act.put, List.setIfInBounds_toArray, List.set_cons_succ, List.set_cons_zero]
              refine wpAnyH_take (i := 7) (oi := Oper.mk (some 25) _ _ _ _ _) (v := .int .i64 (i : Int)) rfl (by kernel_rfl) (by kernel_rfl) (by kernel_rfl) (fun _ _ _ h => h) (Or.inl ⟨by rfl, ?_⟩) trivial ?_
              · intro wX _
                go_simp
              simp only [Act.put, List.setIfInBounds_toArray, List.set_cons_succ, List.set_cons_zero]
              refine wpAnyH_take (i := 8) (oi := Oper.mk (some 26) _ _ _ _ _) (v := .int .i64 ((i : Int) + 1)) rfl (by kernel_rfl) (by kernel_rfl) (by kernel_rfl) (fun _ _ _ h => h) (Or.inl ⟨by rfl, ?_⟩) trivial ?_
              · intro wX _
                go_simp
              simp only [Act.put, List.setIfInBounds_toArray, List.set_cons_succ, List.set_cons_zero]
              refine wpAnyH_take (i := 9) (oi := Oper.mk (some 27) _ _ _ _ _) (v := .slice (some ⟨g, off + (i + 1), none⟩) (n - (i + 1)) (cap - (i + 1))) rfl (by kernel_rfl) (by kernel_rfl) (by kernel_rfl) (fun _ _ _ h => h) (Or.inl ⟨by rfl, ?_⟩) trivial ?_
              · intro wX _
                go_simp
              simp only [Act.put, List.setIfInBounds_toArray, List.set_cons_succ, List.set_cons_zero]
              refine wpAnyH_ready (rs := [3]) (by kernel_rfl) (by simp) ?_
              refine AllReadyH.cons (o := Oper.mk (some 21) _ _ _ _ _) rfl (fun K hK => ?_) AllReadyH.nil
              go_simp
              refine (CX.out _ b0).mono ?_
              rintro e v1 ⟨rfl, b1⟩
              refine hK.out _ _ trivial (fun _ => ?_)
              clear hK K
              refine wpAnyH_ready (rs := [10]) (by kernel_rfl) (by simp) ?_
              refine AllReadyH.cons (o := Oper.mk (some 28) _ _ _ _ _) rfl (fun K hK => ?_) AllReadyH.nil
              go_simp
              refine (CR.out _ b1).mono ?_
              rintro e v2 ⟨rfl, b2⟩
              exact ⟨rfl, Ans.panic HREL.out (HB.out.trans (b2.out.mono HB.out.size))⟩
            | some rs =>
              have CR : Hid (∀ X, Hid (Below W0.heap.size W0 X) → Calls Tryz.prog 280 #[.slice (some ⟨g, off + (i + 1), none⟩) (n - (i + 1)) (cap - (i + 1))] X fun e w' => (∃ sa sn sc, e = .returned (.slice sa sn sc) ∧ Hid (Lst W0.heap.size 303 2 ElRange rs (.slice sa sn sc) w')) ∧ Hid (Below W0.heap.size W0 w')) := by
                intro X bX
                have h := readRanges_any g _ _ _ _ X (TB.below bX.out) KB (HE.out.below bX.out) LB
                rw [hr] at h
                refine h.mono ?_
                rintro e w' ⟨hb, v', rfl, hv'⟩
                obtain ⟨sa, sn, sc, rfl⟩ := Lst.slice hv'
                exact ⟨⟨sa, sn, sc, rfl, Lst.low hv' bX.out.size (fun _ _ h => h)⟩, bX.out.trans (hb.mono bX.out.size)⟩
              have HREL : Hid (RR = some (RelT.mk xo xd false rs)) := by show RR = _; rw [HRR.out, hspec, hx, hr]
              clear TA TB KA KB LB HE hspec hr1 hr2 ht' HT hnl hnl'
              have hic : ¬ cap < i := by omega
              have hwr : IntKind.i64.wrap ((i : Int) + 1) = (i : Int) + 1 := by rw [IntKind.wrap_i64]; omega
              have h01 : (0 : Int) ≤ (i : Int) + 1 := by omega
              have hic2 : ¬ (i : Int) + 1 < (i : Int) := by omega
              have hcp2 : ¬ cap = i + 1 := fun h => hcp h.symm
              clear hx hr HRR
              go_wp2_with fail
              refine wp_region_held_drew (S := fun _ => True) (by kernel_rfl) trivial (fun _ => ?_)
              refine wpAnyH_take (i := 0) (oi := Oper.mk (some 18) _ _ _ _ _) (v := .slice (some ⟨g, off, none⟩) n cap) rfl (by kernel_rfl) (by kernel_rfl) (by kernel_rfl) (fun _ _ _ h => h) (Or.inl ⟨by rfl, ?_⟩) trivial ?_
              · intro wX _
                go_simp
              simp only [Act.put, List.setIfInBounds_toArray, List.set_cons_succ, List.set_cons_zero]
              refine wpAnyH_take (i := 1) (oi := Oper.mk (some 19) _ _ _ _ _) (v := .int .i64 (i : Int)) rfl (by kernel_rfl) (by kernel_rfl) (by kernel_rfl) (fun _ _ _ h => h) (Or.inl ⟨by rfl, ?_⟩) trivial ?_
              · intro wX _
                go_simp
              simp only [Act.put, List.setIfInBounds_toArray, List.set_cons_succ, List.set_cons_zero]
              refine wpAnyH_take (i := 2) (oi := Oper.mk (some 20) _ _ _ _ _) (v := .slice (some ⟨g, off, none⟩) i cap) rfl (by kernel_rfl) (by kernel_rfl) (by kernel_rfl) (fun _ _ _ h => h) (Or.inl ⟨by rfl, ?_⟩) trivial ?_
              · intro wX _
                go_simp
              simp only [Act.put, List.setIfInBounds_toArray, List.set_cons_succ, List.set_cons_zero]
              refine wpAnyH_take (i := 4) (oi := Oper.mk (some 22) _ _ _ _ _) (v := .string ⟨#[61]⟩) rfl (by kernel_rfl) (by kernel_rfl) (by kernel_rfl) (fun _ _ _ h => h) (Or.inl ⟨by rfl, ?_⟩) trivial ?_
              · intro wX _
                go_simp
              simp only [Act.put, List.setIfInBounds_toArray, List.set_cons_succ, List.set_cons_zero]
              refine wpAnyH_take (i := 5) (oi := Oper.mk (some 23) _ _ _ _ _) (v := .bool false) rfl (by kernel_rfl) (by kernel_rfl) (by kernel_rfl) (fun _ _ _ h => h) (Or.inl ⟨by rfl, ?_⟩) trivial ?_
              · intro wX _
                go_simp
              simp only [Act.put, List.setIfInBounds_toArray, List.set_cons_succ, List.set_cons_zero]
              refine wpAnyH_take (i := 6) (oi := Oper.mk (some 24) _ _ _ _ _) (v := .slice (some ⟨g, off, none⟩) n cap) rfl (by kernel_rfl) (by kernel_rfl) (by kernel_rfl) (fun _ _ _ h => h) (Or.inl ⟨by rfl, ?_⟩) trivial ?_
              · intro wX _
                go_simp
              simp only [Act.put, List.setIfInBounds_toArray, List.set_cons_succ, List.set_cons_zero]
              refine wpAnyH_take (i := 7) (oi := Oper.mk (some 25) _ _ _ _ _) (v := .int .i64 (i : Int)) rfl (by kernel_rfl) (by kernel_rfl) (by kernel_rfl) (fun _ _ _ h => h) (Or.inl ⟨by rfl, ?_⟩) trivial ?_
              · intro wX _
                go_simp
              simp only [Act.put, List.setIfInBounds_toArray, List.set_cons_succ, List.set_cons_zero]
              refine wpAnyH_take (i := 8) (oi := Oper.mk (some 26) _ _ _ _ _) (v := .int .i64 ((i : Int) + 1)) rfl (by kernel_rfl) (by kernel_rfl) (by kernel_rfl) (fun _ _ _ h => h) (Or.inl ⟨by rfl, ?_⟩) trivial ?_
              · intro wX _
                go_simp
              simp only [Act.put, List.setIfInBounds_toArray, List.set_cons_succ, List.set_cons_zero]
              refine wpAnyH_take (i := 9) (oi := Oper.mk (some 27) _ _ _ _ _) (v := .slice (some ⟨g, off + (i + 1), none⟩) (n - (i + 1)) (cap - (i + 1))) rfl (by kernel_rfl) (by kernel_rfl) (by kernel_rfl) (fun _ _ _ h => h) (Or.inl ⟨by rfl, ?_⟩) trivial ?_
              · intro wX _
                go_simp
              simp only [Act.put, List.setIfInBounds_toArray, List.set_cons_succ, List.set_cons_zero]
              refine wpAnyH_ready (rs := [3]) (by kernel_rfl) (by simp) ?_
              refine AllReadyH.cons (o := Oper.mk (some 21) _ _ _ _ _) rfl (fun K hK => ?_) AllReadyH.nil
              go_simp
              refine (CX.out _ b0).mono ?_
              rintro e v1 ⟨rfl, b1⟩
              refine hK.out _ _ trivial (fun _ => ?_)
              clear hK K
              refine wpAnyH_ready (rs := [10]) (by kernel_rfl) (by simp) ?_
              refine AllReadyH.cons (o := Oper.mk (some 28) _ _ _ _ _) rfl (fun K hK => ?_) AllReadyH.nil
              go_simp
              refine (CR.out _ b1).mono ?_
              rintro e v2 ⟨⟨sa, sn, sc, rfl, HSV⟩, b2⟩
              have BR1 := Blk.on BR b2.out
              have HB1 := hide (HB.out.trans (b2.out.mono HB.out.size))
              obtain ⟨f0, f1, f2, f3⟩ : v2.frozen? ⟨w.heap.size, 0, none⟩ = false ∧ v2.frozen? ⟨w.heap.size, 1, none⟩ = false ∧ v2.frozen? ⟨w.heap.size, 2, none⟩ = false ∧ v2.frozen? ⟨w.heap.size, 3, none⟩ = false := ⟨BR1.out.free 0, BR1.out.free 1, BR1.out.free 2, BR1.out.free 3⟩
              obtain ⟨c0, c1, c2, c3⟩ := BR1.out.four
              refine hK.out _ _ trivial (fun _ => ?_)
              clear hK K
              refine wpAnyH_take (i := 11) (oi := Oper.mk (some 29) _ _ _ _ _) (v := .agg #[.int .u8 (xo.toNat : Int), .int .i64 (xd : Int), .bool false, .slice sa sn sc]) rfl (by kernel_rfl) (by kernel_rfl) (by kernel_rfl) (fun _ _ _ h => h) (Or.inl ⟨by rfl, ?_⟩) trivial ?_
              · intro wX _
                go_simp
              simp only [Act.put, List.setIfInBounds_toArray, List.set_cons_succ, List.set_cons_zero]
              refine wpAnyH_ready (rs := [12]) (by kernel_rfl) (by simp) ?_
              refine AllReadyH.cons (o := Oper.mk none _ _ _ _ _) rfl (fun K hK => ?_) AllReadyH.nil
              go_simp
              refine hK.out _ _ trivial (fun _ => ?_)
              clear hK K
              refine wpAnyH_done (by kernel_rfl) ?_ _
              go_wp2
              refine bodyPost_ret (results_rel rfl _ _ _ _ _ _ _ rfl (BR1.out.put4 _ _ _ _)) rfl ?_
              refine Ans.ret HREL.out (below_put4 HB1.out (Nat.le_refl _) _ _ _ _) ⟨.slice sa sn sc, rfl, ?_⟩
              exact (HSV.out.kt (S := fun ty => ty ≠ 229) (kt_put4 BR1.out _ _ _ _) (by decide) (fun _ _ h => h)).low HWS.out (fun _ _ h => h)

      · by_cases hs2 : t = [33, 61]
        · clear hs
          have hs := hs2
          clear hs2
          subst hs
          rw [show mkB [33, 61] = ⟨#[33, 61]⟩ from rfl] at c3
          obtain ⟨hr1, hr2⟩ := rel_at ht' HNE.out (by decide)
          have TA := HT.out.cut 0 i (Nat.zero_le _) (by omega)
          have TB := HT.out.cut (i + 1) n (by omega) (by omega)
          rw [show cutA off cap 0 = off from by unfold cutA; split <;> simp, Nat.sub_zero, Nat.sub_zero, List.drop_zero] at TA
          rw [hnl', List.take_length] at TB
          have KA := ht.cut 0 i
          have KB := ht.cut (i + 1) n
          rw [List.drop_zero] at KA
          rw [hnl', List.take_length] at KB
          have LB : (ts.drop (i + 1)).length ≤ 1024 := by simp; omega
          have b0 : Hid (Below W0.heap.size W0 W0.drew) := bdrewD W0
          have hspec : relT ts = match exprT (ts.take i), (splitT [44] (ts.drop (i + 1))).mapM rangeT with | some x, some rs => some ⟨x.1, x.2, true, rs⟩ | _, _ => none := by
            unfold relT
            rw [hr1, hr2]
            rfl
          by_cases hcp : i + 1 = cap
          · have hz2 : n - (i + 1) = 0 := by omega
            have hz3 : cap - (i + 1) = 0 := by omega
            rw [show cutA off cap (i + 1) = off from if_pos hcp, hnl, hz2, hz3] at TB
            have hlt2 : ¬ ((i : Int) + 1) < (cap : Int) := by omega
            have hle2 : ((i : Int) + 1) ≤ (n : Int) := by omega
            have hn' : n = i + 1 := by omega
            have hcap' : cap = i + 1 := by omega
            cases hx : exprT (ts.take i) with
            | none =>
              have CX : Hid (∀ X, Hid (Below W0.heap.size W0 X) → Calls Tryz.prog 279 #[.slice (some ⟨g, off, none⟩) i cap] X fun e w' => e = .panicked PC ∧ Hid (Below W0.heap.size W0 w')) := by
                intro X bX
                have h := readExpr_any g off cap _ _ X (TA.below bX.out) KA (HE.out.below bX.out)
                rw [hx] at h
                refine h.mono ?_
                rintro e w' ⟨hb, rfl⟩
                exact ⟨rfl, bX.out.trans (hb.mono bX.out.size)⟩
              have HREL : Hid (RR = none) := by show RR = none; rw [HRR.out, hspec, hx]
              clear TA TB KA KB LB HE hspec hr1 hr2 ht' HT hnl hnl'
              clear hcp hz2 hz3
              subst hn'
              subst hcap'
              have hic : ¬ (i + 1) < i := by omega
              have hwr : IntKind.i64.wrap ((i : Int) + 1) = (i : Int) + 1 := by rw [IntKind.wrap_i64]; omega
              have h01 : (0 : Int) ≤ (i : Int) + 1 := by omega
              have hic2 : ¬ (i : Int) + 1 < (i : Int) := by omega
              clear hx HRR
              go_wp2_with fail
              refine wp_region_held_drew (S := fun _ => True) (by kernel_rfl) trivial (fun _ => ?_)
              refine wpAnyH_take (i := 0) (oi := Oper.mk (some 18) _ _ _ _ _) (v := .slice (some ⟨g, off, none⟩) (i + 1) (i + 1)) rfl (by kernel_rfl) (by kernel_rfl) (by kernel_rfl) (fun _ _ _ h => h) (Or.inl ⟨by rfl, ?_⟩) trivial ?_
              · intro wX _
                go_simp
              simp only [Act.put, List.setIfInBounds_toArray, List.set_cons_succ, List.set_cons_zero]
              refine wpAnyH_take (i := 1) (oi := Oper.mk (some 19) _ _ _ _ _) (v := .int .i64 (i : Int)) rfl (by kernel_rfl) (by kernel_rfl) (by kernel_rfl) (fun _ _ _ h => h) (Or.inl ⟨by rfl, ?_⟩) trivial ?_
              · intro wX _
                go_simp
              simp only [Act.put, List.setIfInBounds_toArray, List.set_cons_succ, List.set_cons_zero]
              refine wpAnyH_take (i := 2) (oi := Oper.mk (some 20) _ _ _ _ _) (v := .slice (some ⟨g, off, none⟩) i (i + 1)) rfl (by kernel_rfl) (by kernel_rfl) (by kernel_rfl) (fun _ _ _ h => h) (Or.inl ⟨by rfl, ?_⟩) trivial ?_
              · intro wX _
                go_simp
              simp only [Act.put, List.setIfInBounds_toArray, List.set_cons_succ, List.set_cons_zero]
              refine wpAnyH_take (i := 4) (oi := Oper.mk (some 22) _ _ _ _ _) (v := .string ⟨#[33, 61]⟩) rfl (by kernel_rfl) (by kernel_rfl) (by kernel_rfl) (fun _ _ _ h => h) (Or.inl ⟨by rfl, ?_⟩) trivial ?_
              · intro wX _
                go_simp
              simp only [Act.put, List.setIfInBounds_toArray, List.set_cons_succ, List.set_cons_zero]
              refine wpAnyH_take (i := 5) (oi := Oper.mk (some 23) _ _ _ _ _) (v := .bool true) rfl (by kernel_rfl) (by kernel_rfl) (by kernel_rfl) (fun _ _ _ h => h) (Or.inl ⟨by rfl, ?_⟩) trivial ?_
              · intro wX _
                go_simp
              simp only [Act.put, List.setIfInBounds_toArray, List.set_cons_succ, List.set_cons_zero]
              refine wpAnyH_take (i := 6) (oi := Oper.mk (some 24) _ _ _ _ _) (v := .slice (some ⟨g, off, none⟩) (i + 1) (i + 1)) rfl (by kernel_rfl) (by kernel_rfl) (by kernel_rfl) (fun _ _ _ h => h) (Or.inl ⟨by rfl, ?_⟩) trivial ?_
              · intro wX _
                go_simp
              simp only [Act.put, List.setIfInBounds_toArray, List.set_cons_succ, List.set_cons_zero]
              refine wpAnyH_take (i := 7) (oi := Oper.mk (some 25) _ _ _ _ _) (v := .int .i64 (i : Int)) rfl (by kernel_rfl) (by kernel_rfl) (by kernel_rfl) (fun _ _ _ h => h) (Or.inl ⟨by rfl, ?_⟩) trivial ?_
              · intro wX _
                go_simp
              simp only [Act.put, List.setIfInBounds_toArray, List.set_cons_succ, List.set_cons_zero]
              refine wpAnyH_take (i := 8) (oi := Oper.mk (some 26) _ _ _ _ _) (v := .int .i64 ((i : Int) + 1)) rfl (by kernel_rfl) (by kernel_rfl) (by kernel_rfl) (fun _ _ _ h => h) (Or.inl ⟨by rfl, ?_⟩) trivial ?_
              · intro wX _
                go_simp
              simp only [Act.put, List.setIfInBounds_toArray, List.set_cons_succ, List.set_cons_zero]
              refine wpAnyH_take (i := 9) (oi := Oper.mk (some 27) _ _ _ _ _) (v := .slice (some ⟨g, off, none⟩) 0 0) rfl (by kernel_rfl) (by kernel_rfl) (by kernel_rfl) (fun _ _ _ h => h) (Or.inl ⟨by rfl, ?_⟩) trivial ?_
              · intro wX _
                go_simp
              simp only [Act.put, List.setIfInBounds_toArray, List.set_cons_succ, List.set_cons_zero]
              refine wpAnyH_ready (rs := [3]) (by kernel_rfl) (by simp) ?_
              refine AllReadyH.cons (o := Oper.mk (some 21) _ _ _ _ _) rfl (fun K hK => ?_) AllReadyH.nil
              go_simp
              refine (CX.out _ b0).mono ?_
              rintro e v1 ⟨rfl, b1⟩
              exact ⟨rfl, Ans.panic HREL.out (HB.out.trans (b1.out.mono HB.out.size))⟩
            | some xx =>
              obtain ⟨xo, xd⟩ := xx
              have CX : Hid (∀ X, Hid (Below W0.heap.size W0 X) → Calls Tryz.prog 279 #[.slice (some ⟨g, off, none⟩) i cap] X fun e w' => e = .returned (.agg #[.int .u8 (xo.toNat : Int), .int .i64 (xd : Int)]) ∧ Hid (Below W0.heap.size W0 w')) := by
                intro X bX
                have h := readExpr_any g off cap _ _ X (TA.below bX.out) KA (HE.out.below bX.out)
                rw [hx] at h
                refine h.mono ?_
                rintro e w' ⟨hb, v', rfl, rfl⟩
                exact ⟨rfl, bX.out.trans (hb.mono bX.out.size)⟩
              cases hr : (splitT [44] (ts.drop (i + 1))).mapM rangeT with
              | none =>
                have CR : Hid (∀ X, Hid (Below W0.heap.size W0 X) → Calls Tryz.prog 280 #[.slice (some ⟨g, off, none⟩) 0 0] X fun e w' => e = .panicked PC ∧ Hid (Below W0.heap.size W0 w')) := by
                  intro X bX
                  have h := readRanges_any g _ _ _ _ X (TB.below bX.out) KB (HE.out.below bX.out) LB
                  rw [hr] at h
                  refine h.mono ?_
                  rintro e w' ⟨hb, rfl⟩
                  exact ⟨rfl, bX.out.trans (hb.mono bX.out.size)⟩
                have HREL : Hid (RR = none) := by show RR = none; rw [HRR.out, hspec, hx, hr]
                clear TA TB KA KB LB HE hspec hr1 hr2 ht' HT hnl hnl'
                clear hcp hz2 hz3
                subst hn'
                subst hcap'
                have hic : ¬ (i + 1) < i := by omega
                have hwr : IntKind.i64.wrap ((i : Int) + 1) = (i : Int) + 1 := by rw [IntKind.wrap_i64]; omega
                have h01 : (0 : Int) ≤ (i : Int) + 1 := by omega
                have hic2 : ¬ (i : Int) + 1 < (i : Int) := by omega
                clear hx hr HRR
                go_wp2_with fail
                refine wp_region_held_drew (S := fun _ => True) (by kernel_rfl) trivial (fun _ => ?_)
                refine wpAnyH_take (i := 0) (oi := Oper.mk (some 18) _ _ _ _ _) (v := .slice (some ⟨g, off, none⟩) (i + 1) (i + 1)) rfl (by kernel_rfl) (by kernel_rfl) (by kernel_rfl) (fun _ _ _ h => h) (Or.inl ⟨by rfl, ?_⟩) trivial ?_
                · intro wX _
                  go_simp
                simp only [Act.put, List.setIfInBounds_toArray, List.set_cons_succ, List.set_cons_zero]
                refine wpAnyH_take (i := 1) (oi := Oper.mk (some 19) _ _ _ _ _) (v := .int .i64 (i : Int)) rfl (by kernel_rfl) (by kernel_rfl) (by kernel_rfl) (fun _ _ _ h => h) (Or.inl ⟨by rfl, ?_⟩) trivial ?_
                · intro wX _
                  go_simp
                simp only [Act.put, List.setIfInBounds_toArray, List.set_cons_succ, List.set_cons_zero]
                refine wpAnyH_take (i := 2) (oi := Oper.mk (some 20) _ _ _ _ _) (v := .slice (some ⟨g, off, none⟩) i (i + 1)) rfl (by kernel_rfl) (by kernel_rfl) (by kernel_rfl) (fun _ _ _ h => h) (Or.inl ⟨by rfl, ?_⟩) trivial ?_
                · intro wX _
                  go_simp
                simp only [Act.put, List.setIfInBounds_toArray, List.set_cons_succ, List.set_cons_zero]
                refine wpAnyH_take (i := 4) (oi := Oper.mk (some 22) _ _ _ _ _) (v := .string ⟨#[33, 61]⟩) rfl (by kernel_rfl) (by kernel_rfl) (by kernel_rfl) (fun _ _ _ h => h) (Or.inl ⟨by rfl, ?_⟩) trivial ?_
                · intro wX _
                  go_simp
                simp only [Act.put, List.setIfInBounds_toArray, List.set_cons_succ, List.set_cons_zero]
                refine wpAnyH_take (i := 5) (oi := Oper.mk (some 23) _ _ _ _ _) (v := .bool true) rfl (by kernel_rfl) (by kernel_rfl) (by kernel_rfl) (fun _ _ _ h => h) (Or.inl ⟨by rfl, ?_⟩) trivial ?_
                · intro wX _
                  go_simp
                simp only [Act.put, List.setIfInBounds_toArray, List.set_cons_succ, List.set_cons_zero]
                refine wpAnyH_take (i := 6) (oi := Oper.mk (some 24) _ _ _ _ _) (v := .slice (some ⟨g, off, none⟩) (i + 1) (i + 1)) rfl (by kernel_rfl) (by kernel_rfl) (by kernel_rfl) (fun _ _ _ h => h) (Or.inl ⟨by rfl, ?_⟩) trivial ?_
                · intro wX _
                  go_simp
                simp only [Act.put, List.setIfInBounds_toArray, List.set_cons_succ, List.set_cons_zero]
                refine wpAnyH_take (i := 7) (oi := Oper.mk (some 25) _ _ _ _ _) (v := .int .i64 (i : Int)) rfl (by kernel_rfl) (by kernel_rfl) (by kernel_rfl) (fun _ _ _ h => h) (Or.inl ⟨by rfl, ?_⟩) trivial ?_
                · intro wX _
                  go_simp
                simp only [Act.put, List.setIfInBounds_toArray, List.set_cons_succ, List.set_cons_zero]
                refine wpAnyH_take (i := 8) (oi := Oper.mk (some 26) _ _ _ _ _) (v := .int .i64 ((i : Int) + 1)) rfl (by kernel_rfl) (by kernel_rfl) (by kernel_rfl) (fun _ _ _ h => h) (Or.inl ⟨by rfl, ?_⟩) trivial ?_
                · intro wX _
                  go_simp
                simp only [Act.put, List.setIfInBounds_toArray, List.set_cons_succ, List.set_cons_zero]
                refine wpAnyH_take (i := 9) (oi := Oper.mk (some 27) _ _ _ _ _) (v := .slice (some ⟨g, off, none⟩) 0 0) rfl (by kernel_rfl) (by kernel_rfl) (by kernel_rfl) (fun _ _ _ h => h) (Or.inl ⟨by rfl, ?_⟩) trivial ?_
                · intro wX _
                  go_simp
                simp only [Act.put, List.setIfInBounds_toArray, List.set_cons_succ, List.set_cons_zero]
                refine wpAnyH_ready (rs := [3]) (by kernel_rfl) (by simp) ?_
                refine AllReadyH.cons (o := Oper.mk (some 21) _ _ _ _ _) rfl (fun K hK => ?_) AllReadyH.nil
                go_simp
                refine (CX.out _ b0).mono ?_
                rintro e v1 ⟨rfl, b1⟩
                refine hK.out _ _ trivial (fun _ => ?_)
                clear hK K
                refine wpAnyH_ready (rs := [10]) (by kernel_rfl) (by simp) ?_
                refine AllReadyH.cons (o := Oper.mk (some 28) _ _ _ _ _) rfl (fun K hK => ?_) AllReadyH.nil
                go_simp
                refine (CR.out _ b1).mono ?_
                rintro e v2 ⟨rfl, b2⟩
                exact ⟨rfl, Ans.panic HREL.out (HB.out.trans (b2.out.mono HB.out.size))⟩
              | some rs =>
                have CR : Hid (∀ X, Hid (Below W0.heap.size W0 X) → Calls Tryz.prog 280 #[.slice (some ⟨g, off, none⟩) 0 0] X fun e w' => (∃ sa sn sc, e = .returned (.slice sa sn sc) ∧ Hid (Lst W0.heap.size 303 2 ElRange rs (.slice sa sn sc) w')) ∧ Hid (Below W0.heap.size W0 w')) := by
                  intro X bX
                  have h := readRanges_any g _ _ _ _ X (TB.below bX.out) KB (HE.out.below bX.out) LB
                  rw [hr] at h
                  refine h.mono ?_
                  rintro e w' ⟨hb, v', rfl, hv'⟩
                  obtain ⟨sa, sn, sc, rfl⟩ := Lst.slice hv'
                  exact ⟨⟨sa, sn, sc, rfl, Lst.low hv' bX.out.size (fun _ _ h => h)⟩, bX.out.trans (hb.mono bX.out.size)⟩
                have HREL : Hid (RR = some (RelT.mk xo xd true rs)) := by show RR = _; rw [HRR.out, hspec, hx, hr]
                clear TA TB KA KB LB HE hspec hr1 hr2 ht' HT hnl hnl'
                clear hcp hz2 hz3
                subst hn'
                subst hcap'
                have hic : ¬ (i + 1) < i := by omega
                have hwr : IntKind.i64.wrap ((i : Int) + 1) = (i : Int) + 1 := by rw [IntKind.wrap_i64]; omega
                have h01 : (0 : Int) ≤ (i : Int) + 1 := by omega
                have hic2 : ¬ (i : Int) + 1 < (i : Int) := by omega
                clear hx hr HRR
                go_wp2_with fail
                refine wp_region_held_drew (S := fun _ => True) (by kernel_rfl) trivial (fun _ => ?_)
                refine wpAnyH_take (i := 0) (oi := Oper.mk (some 18) _ _ _ _ _) (v := .slice (some ⟨g, off, none⟩) (i + 1) (i + 1)) rfl (by kernel_rfl) (by kernel_rfl) (by kernel_rfl) (fun _ _ _ h => h) (Or.inl ⟨by rfl, ?_⟩) trivial ?_
                · intro wX _
                  go_simp
                simp only [Act.put, List.setIfInBounds_toArray, List.set_cons_succ, List.set_cons_zero]
                refine wpAnyH_take (i := 1) (oi := Oper.mk (some 19) _ _ _ _ _) (v := .int .i64 (i : Int)) rfl (by kernel_rfl) (by kernel_rfl) (by kernel_rfl) (fun _ _ _ h => h) (Or.inl ⟨by rfl, ?_⟩) trivial ?_
                · intro wX _
                  go_simp
                simp only [Act.put, List.setIfInBounds_toArray, List.set_cons_succ, List.set_cons_zero]
                refine wpAnyH_take (i := 2) (oi := Oper.mk (some 20) _ _ _ _ _) (v := .slice (some ⟨g, off, none⟩) i (i + 1)) rfl (by kernel_rfl) (by kernel_rfl) (by kernel_rfl) (fun _ _ _ h => h) (Or.inl ⟨by rfl, ?_⟩) trivial ?_
                · intro wX _
                  go_simp
                simp only [Act.put, List.setIfInBounds_toArray, List.set_cons_succ, List.set_cons_zero]
                refine wpAnyH_take (i := 4) (oi := Oper.mk (some 22) _ _ _ _ _) (v := .string ⟨#[33, 61]⟩) rfl (by kernel_rfl) (by kernel_rfl) (by kernel_rfl) (fun _ _ _ h => h) (Or.inl ⟨by rfl, ?_⟩) trivial ?_
                · intro wX _
                  go_simp
                simp only [Act.put, List.setIfInBounds_toArray, List.set_cons_succ, List.set_cons_zero]
                refine wpAnyH_take (i := 5) (oi := Oper.mk (some 23) _ _ _ _ _) (v := .bool true) rfl (by kernel_rfl) (by kernel_rfl) (by kernel_rfl) (fun _ _ _ h => h) (Or.inl ⟨by rfl, ?_⟩) trivial ?_
                · intro wX _
                  go_simp
                simp only [Act.put, List.setIfInBounds_toArray, List.set_cons_succ, List.set_cons_zero]
                refine wpAnyH_take (i := 6) (oi := Oper.mk (some 24) _ _ _ _ _) (v := .slice (some ⟨g, off, none⟩) (i + 1) (i + 1)) rfl (by kernel_rfl) (by kernel_rfl) (by kernel_rfl) (fun _ _ _ h => h) (Or.inl ⟨by rfl, ?_⟩) trivial ?_
                · intro wX _
                  go_simp
                simp only [Act.put, List.setIfInBounds_toArray, List.set_cons_succ, List.set_cons_zero]
                refine wpAnyH_take (i := 7) (oi := Oper.mk (some 25) _ _ _ _ _) (v := .int .i64 (i : Int)) rfl (by kernel_rfl) (by kernel_rfl) (by kernel_rfl) (fun _ _ _ h => h) (Or.inl ⟨by rfl, ?_⟩) trivial ?_
                · intro wX _
                  go_simp
                simp only [Act.put, List.setIfInBounds_toArray, List.set_cons_succ, List.set_cons_zero]
                refine wpAnyH_take (i := 8) (oi := Oper.mk (some 26) _ _ _ _ _) (v := .int .i64 ((i : Int) + 1)) rfl (by kernel_rfl) (by kernel_rfl) (by kernel_rfl) (fun _ _ _ h => h) (Or.inl ⟨by rfl, ?_⟩) trivial ?_
                · intro wX _
                  go_simp
                simp only [Act.put, List.setIfInBounds_toArray, List.set_cons_succ, List.set_cons_zero]
                refine wpAnyH_take (i := 9) (oi := Oper.mk (some 27) _ _ _ _ _) (v := .slice (some ⟨g, off, none⟩) 0 0) rfl (by kernel_rfl) (by kernel_rfl) (by kernel_rfl) (fun _ _ _ h => h) (Or.inl ⟨by rfl, ?_⟩) trivial ?_
                · intro wX _
                  go_simp
                simp only [Act.put, List.setIfInBounds_toArray, List.set_cons_succ, List.set_cons_zero]
                refine wpAnyH_ready (rs := [3]) (by kernel_rfl) (by simp) ?_
                refine AllReadyH.cons (o := Oper.mk (some 21) _ _ _ _ _) rfl (fun K hK => ?_) AllReadyH.nil
                go_simp
                refine (CX.out _ b0).mono ?_
                rintro e v1 ⟨rfl, b1⟩
                refine hK.out _ _ trivial (fun _ => ?_)
                clear hK K
                refine wpAnyH_ready (rs := [10]) (by kernel_rfl) (by simp) ?_
                refine AllReadyH.cons (o := Oper.mk (some 28) _ _ _ _ _) rfl (fun K hK => ?_) AllReadyH.nil
                go_simp
                refine (CR.out _ b1).mono ?_
                rintro e v2 ⟨⟨sa, sn, sc, rfl, HSV⟩, b2⟩
                have BR1 := Blk.on BR b2.out
                have HB1 := hide (HB.out.trans (b2.out.mono HB.out.size))
                obtain ⟨f0, f1, f2, f3⟩ : v2.frozen? ⟨w.heap.size, 0, none⟩ = false ∧ v2.frozen? ⟨w.heap.size, 1, none⟩ = false ∧ v2.frozen? ⟨w.heap.size, 2, none⟩ = false ∧ v2.frozen? ⟨w.heap.size, 3, none⟩ = false := ⟨BR1.out.free 0, BR1.out.free 1, BR1.out.free 2, BR1.out.free 3⟩
                obtain ⟨c0, c1, c2, c3⟩ := BR1.out.four
                refine hK.out _ _ trivial (fun _ => ?_)
                clear hK K
                refine wpAnyH_take (i := 11) (oi := Oper.mk (some 29) _ _ _ _ _) (v := .agg #[.int .u8 (xo.toNat : Int), .int .i64 (xd : Int), .bool true, .slice sa sn sc]) rfl (by kernel_rfl) (by kernel_rfl) (by kernel_rfl) (fun _ _ _ h => h) (Or.inl ⟨by rfl, ?_⟩) trivial ?_
                · intro wX _
                  go_simp
                simp only [Act.put, List.setIfInBounds_toArray, List.set_cons_succ, List.set_cons_zero]
                refine wpAnyH_ready (rs := [12]) (by kernel_rfl) (by simp) ?_
                refine AllReadyH.cons (o := Oper.mk none _ _ _ _ _) rfl (fun K hK => ?_) AllReadyH.nil
                go_simp
                refine hK.out _ _ trivial (fun _ => ?_)
                clear hK K
                refine wpAnyH_done (by kernel_rfl) ?_ _
                go_wp2
                refine bodyPost_ret (results_rel rfl _ _ _ _ _ _ _ rfl (BR1.out.put4 _ _ _ _)) rfl ?_
                refine Ans.ret HREL.out (below_put4 HB1.out (Nat.le_refl _) _ _ _ _) ⟨.slice sa sn sc, rfl, ?_⟩
                exact (HSV.out.kt (S := fun ty => ty ≠ 229) (kt_put4 BR1.out _ _ _ _) (by decide) (fun _ _ h => h)).low HWS.out (fun _ _ h => h)
          · rw [show cutA off cap (i + 1) = off + (i + 1) from if_neg hcp, hnl] at TB
            have hlt2 : ((i : Int) + 1) < (cap : Int) := by omega
            have hle2 : ((i : Int) + 1) ≤ (n : Int) := by omega
            cases hx : exprT (ts.take i) with
            | none =>
              have CX : Hid (∀ X, Hid (Below W0.heap.size W0 X) → Calls Tryz.prog 279 #[.slice (some ⟨g, off, none⟩) i cap] X fun e w' => e = .panicked PC ∧ Hid (Below W0.heap.size W0 w')) := by
                intro X bX
                have h := readExpr_any g off cap _ _ X (TA.below bX.out) KA (HE.out.below bX.out)
                rw [hx] at h
                refine h.mono ?_
                rintro e w' ⟨hb, rfl⟩
                exact ⟨rfl, bX.out.trans (hb.mono bX.out.size)⟩
              have HREL : Hid (RR = none) := by show RR = none; rw [HRR.out, hspec, hx]
              clear TA TB KA KB LB HE hspec hr1 hr2 ht' HT hnl hnl'
              have hic : ¬ cap < i := by omega
              have hwr : IntKind.i64.wrap ((i : Int) + 1) = (i : Int) + 1 := by rw [IntKind.wrap_i64]; omega
              have h01 : (0 : Int) ≤ (i : Int) + 1 := by omega
              have hic2 : ¬ (i : Int) + 1 < (i : Int) := by omega
              have hcp2 : ¬ cap = i + 1 := fun h => hcp h.symm
              clear hx HRR
              go_wp2_with fail
              refine wp_region_held_drew (S := fun _ => True) (by kernel_rfl) trivial (fun _ => ?_)
              refine wpAnyH_take (i := 0) (oi := Oper.mk (some 18) _ _ _ _ _) (v := .slice (some ⟨g, off, none⟩) n cap) rfl (by kernel_rfl) (by kernel_rfl) (by kernel_rfl) (fun _ _ _ h => h) (Or.inl ⟨by rfl, ?_⟩) trivial ?_
              · intro wX _
                go_simp
              simp only [Act.put, List.setIfInBounds_toArray, List.set_cons_succ, List.set_cons_zero]
              refine wpAnyH_take (i := 1) (oi := Oper.mk (some 19) _ _ _ _ _) (v := .int .i64 (i : Int)) rfl (by kernel_rfl) (by kernel_rfl) (by kernel_rfl) (fun _ _ _ h => h) (Or.inl ⟨by rfl, ?_⟩) trivial ?_
              · intro wX _
                go_simp
              simp only [Act.put, List.setIfInBounds_toArray, List.set_cons_succ, List.set_cons_zero]
              refine wpAnyH_take (i := 2) (oi := Oper.mk (some 20) _ _ _ _ _) (v := .slice (some ⟨g, off, none⟩) i cap) rfl (by kernel_rfl) (by kernel_rfl) (by kernel_rfl) (fun _ _ _ h => h) (Or.inl ⟨by rfl, ?_⟩) trivial ?_
              · intro wX _
                go_simp
              simp only [Act.put, List.setIfInBounds_toArray, List.set_cons_succ, List.set_cons_zero]
              refine wpAnyH_take (i := 4) (oi := Oper.mk (some 22) _ _ _ _ _) (v := .string ⟨#[33, 61]⟩) rfl (by kernel_rfl) (by kernel_rfl) (by kernel_rfl) (fun _ _ _ h => h) (Or.inl ⟨by rfl, ?_⟩) trivial ?_
              · intro wX _
                go_simp
              simp only [Act.put, List.setIfInBounds_toArray, List.set_cons_succ, List.set_cons_zero]
              refine wpAnyH_take (i := 5) (oi := Oper.mk (some 23) _ _ _ _ _) (v := .bool true) rfl (by kernel_rfl) (by kernel_rfl) (by kernel_rfl) (fun _ _ _ h => h) (Or.inl ⟨by rfl, ?_⟩) trivial ?_
              · intro wX _
                go_simp
              simp only [Act.put, List.setIfInBounds_toArray, List.set_cons_succ, List.set_cons_zero]
              refine wpAnyH_take (i := 6) (oi := Oper.mk (some 24) _ _ _ _ _) (v := .slice (some ⟨g, off, none⟩) n cap) rfl (by kernel_rfl) (by kernel_rfl) (by kernel_rfl) (fun _ _ _ h => h) (Or.inl ⟨by rfl, ?_⟩) trivial ?_
              · intro wX _
                go_simp
              simp only [Act.put, List.setIfInBounds_toArray, List.set_cons_succ, List.set_cons_zero]
              refine wpAnyH_take (i := 7) (oi := Oper.mk (some 25) _ _ _ _ _) (v := .int .i64 (i : Int)) rfl (by kernel_rfl) (by kernel_rfl) (by kernel_rfl) (fun _ _ _ h => h) (Or.inl ⟨by rfl, ?_⟩) trivial ?_
              · intro wX _
                go_simp
              simp only [Act.put, List.setIfInBounds_toArray, List.set_cons_succ, List.set_cons_zero]
              refine wpAnyH_take (i := 8) (oi := Oper.mk (some 26) _ _ _ _ _) (v := .int .i64 ((i : Int) + 1)) rfl (by kernel_rfl) (by kernel_rfl) (by kernel_rfl) (fun _ _ _ h => h) (Or.inl ⟨by rfl, ?_⟩) trivial ?_
              · intro wX _
                go_simp
              simp only [Act.put, List.setIfInBounds_toArray, List.set_cons_succ, List.set_cons_zero]
              refine wpAnyH_take (i := 9) (oi := Oper.mk (some 27) _ _ _ _ _) (v := .slice (some ⟨g, off + (i + 1), none⟩) (n - (i + 1)) (cap - (i + 1))) rfl (by kernel_rfl) (by kernel_rfl) (by kernel_rfl) (fun _ _ _ h => h) (Or.inl ⟨by rfl, ?_⟩) trivial ?_
              · intro wX _
                go_simp
              simp only [Act.put, List.setIfInBounds_toArray, List.set_cons_succ, List.set_cons_zero]
              refine wpAnyH_ready (rs := [3]) (by kernel_rfl) (by simp) ?_
              refine AllReadyH.cons (o := Oper.mk (some 21) _ _ _ _ _) rfl (fun K hK => ?_) AllReadyH.nil
              go_simp
              refine (CX.out _ b0).mono ?_
              rintro e v1 ⟨rfl, b1⟩
              exact ⟨rfl, Ans.panic HREL.out (HB.out.trans (b1.out.mono HB.out.size))⟩
            | some xx =>
              obtain ⟨xo, xd⟩ := xx
              have CX : Hid (∀ X, Hid (Below W0.heap.size W0 X) → Calls Tryz.prog 279 #[.slice (some ⟨g, off, none⟩) i cap] X fun e w' => e = .returned (.agg #[.int .u8 (xo.toNat : Int), .int .i64 (xd : Int)]) ∧ Hid (Below W0.heap.size W0 w')) := by
                intro X bX
                have h := readExpr_any g off cap _ _ X (TA.below bX.out) KA (HE.out.below bX.out)
                rw [hx] at h
                refine h.mono ?_
                rintro e w' ⟨hb, v', rfl, rfl⟩
                exact ⟨rfl, bX.out.trans (hb.mono bX.out.size)⟩
              cases hr : (splitT [44] (ts.drop (i + 1))).mapM rangeT with
              | none =>
                have CR : Hid (∀ X, Hid (Below W0.heap.size W0 X) → Calls Tryz.prog 280 #[.slice (some ⟨g, off + (i + 1), none⟩) (n - (i + 1)) (cap - (i + 1))] X fun e w' => e = .panicked PC ∧ Hid (Below W0.heap.size W0 w')) := by
                  intro X bX
                  have h := readRanges_any g _ _ _ _ X (TB.below bX.out) KB (HE.out.below bX.out) LB
                  rw [hr] at h
                  refine h.mono ?_
                  rintro e w' ⟨hb, rfl⟩
                  exact ⟨rfl, bX.out.trans (hb.mono bX.out.size)⟩
                have HREL : Hid (RR = none) := by show RR = none; rw [HRR.out, hspec, hx, hr]
                clear TA TB KA KB LB HE hspec hr1 hr2 ht' HT hnl hnl'
                have hic : ¬ cap < i := by omega
                have hwr : IntKind.i64.wrap ((i : Int) + 1) = (i : Int) + 1 := by rw [IntKind.wrap_i64]; omega
                have h01 : (0 : Int) ≤ (i : Int) + 1 := by omega
                have hic2 : ¬ (i : Int) + 1 < (i : Int) := by omega
                have hcp2 : ¬ cap = i + 1 := fun h => hcp h.symm
                clear hx hr HRR
                go_wp2_with fail
                refine wp_region_held_drew (S := fun _ => True) (by kernel_rfl) trivial (fun _ => ?_)
                refine wpAnyH_take (i := 0) (oi := Oper.mk (some 18) _ _ _ _ _) (v := .slice (some ⟨g, off, none⟩) n cap) rfl (by kernel_rfl) (by kernel_rfl) (by kernel_rfl) (fun _ _ _ h => h) (Or.inl ⟨by rfl, ?_⟩) trivial ?_
                · intro wX _
                  go_simp
                simp only [Act.put, List.setIfInBounds_toArray, List.set_cons_succ, List.set_cons_zero]
                refine wpAnyH_take (i := 1) (oi := Oper.mk (some 19) _ _ _ _ _) (v := .int .i64 (i : Int)) rfl (by kernel_rfl) (by kernel_rfl) (by kernel_rfl) (fun _ _ _ h => h) (Or.inl ⟨by rfl, ?_⟩) trivial ?_
                · intro wX _
                  go_simp
                simp only [Act.put, List.setIfInBounds_toArray, List.set_cons_succ, List.set_cons_zero]
                refine wpAnyH_take (i := 2) (oi := Oper.mk (some 20) _ _ _ _ _) (v := .slice (some ⟨g, off, none⟩) i cap) rfl (by kernel_rfl) (by kernel_rfl) (by kernel_rfl) (fun _ _ _ h => h) (Or.inl ⟨by rfl, ?_⟩) trivial ?_
                · intro wX _
                  go_simp
                simp only [Act.put, List.setIfInBounds_toArray, List.set_cons_succ, List.set_cons_zero]
                refine wpAnyH_take (i := 4) (oi := Oper.mk (some 22) _ _ _ _ _) (v := .string ⟨#[33, 61]⟩) rfl (by kernel_rfl) (by kernel_rfl) (by kernel_rfl) (fun _ _ _ h => h) (Or.inl ⟨by rfl, ?_⟩) trivial ?_
                · intro wX _
                  go_simp
                simp only [Act.put, List.setIfInBounds_toArray, List.set_cons_succ, List.set_cons_zero]
                refine wpAnyH_take (i := 5) (oi := Oper.mk (some 23) _ _ _ _ _) (v := .bool true) rfl (by kernel_rfl) (by kernel_rfl) (by kernel_rfl) (fun _ _ _ h => h) (Or.inl ⟨by rfl, ?_⟩) trivial ?_
                · intro wX _
                  go_simp
                simp only [Act.put, List.setIfInBounds_toArray, List.set_cons_succ, List.set_cons_zero]
                refine wpAnyH_take (i := 6) (oi := Oper.mk (some 24) _ _ _ _ _) (v := .slice (some ⟨g, off, none⟩) n cap) rfl (by kernel_rfl) (by kernel_rfl) (by kernel_rfl) (fun _ _ _ h => h) (Or.inl ⟨by rfl, ?_⟩) trivial ?_
                · intro wX _
                  go_simp
                simp only [Act.put, List.setIfInBounds_toArray, List.set_cons_succ, List.set_cons_zero]
                refine wpAnyH_take (i := 7) (oi := Oper.mk (some 25) _ _ _ _ _) (v := .int .i64 (i : Int)) rfl (by kernel_rfl) (by kernel_rfl) (by kernel_rfl) (fun _ _ _ h => h) (Or.inl ⟨by rfl, ?_⟩) trivial ?_
                · intro wX _
                  go_simp
                simp only [Act.put, List.setIfInBounds_toArray, List.set_cons_succ, List.set_cons_zero]
                refine wpAnyH_take (i := 8) (oi := Oper.mk (some 26) _ _ _ _ _) (v := .int .i64 ((i : Int) + 1)) rfl (by kernel_rfl) (by kernel_rfl) (by kernel_rfl) (fun _ _ _ h => h) (Or.inl ⟨by rfl, ?_⟩) trivial ?_
                · intro wX _
                  go_simp
                simp only [Act.put, List.setIfInBounds_toArray, List.set_cons_succ, List.set_cons_zero]
                refine wpAnyH_take (i := 9) (oi := Oper.mk (some 27) _ _ _ _ _) (v := .slice (some ⟨g, off + (i + 1), none⟩) (n - (i + 1)) (cap - (i + 1))) rfl (by kernel_rfl) (by kernel_rfl) (by kernel_rfl) (fun _ _ _ h => h) (Or.inl ⟨by rfl, ?_⟩) trivial ?_
                · intro wX _
                  go_simp
                simp only [Act.put, List.setIfInBounds_toArray, List.set_cons_succ, List.set_cons_zero]
                refine wpAnyH_ready (rs := [3]) (by kernel_rfl) (by simp) ?_
                refine AllReadyH.cons (o := Oper.mk (some 21) _ _ _ _ _) rfl (fun K hK => ?_) AllReadyH.nil
                go_simp
                refine (CX.out _ b0).mono ?_
                rintro e v1 ⟨rfl, b1⟩
                refine hK.out _ _ trivial (fun _ => ?_)
                clear hK K
                refine wpAnyH_ready (rs := [10]) (by kernel_rfl) (by simp) ?_
                refine AllReadyH.cons (o := Oper.mk (some 28) _ _ _ _ _) rfl (fun K hK => ?_) AllReadyH.nil
                go_simp
                refine (CR.out _ b1).mono ?_
                rintro e v2 ⟨rfl, b2⟩
                exact ⟨rfl, Ans.panic HREL.out (HB.out.trans (b2.out.mono HB.out.size))⟩
              | some rs =>
                have CR : Hid (∀ X, Hid (Below W0.heap.size W0 X) → Calls Tryz.prog 280 #[.slice (some ⟨g, off + (i + 1), none⟩) (n - (i + 1)) (cap - (i + 1))] X fun e w' => (∃ sa sn sc, e = .returned (.slice sa sn sc) ∧ Hid (Lst W0.heap.size 303 2 ElRange rs (.slice sa sn sc) w')) ∧ Hid (Below W0.heap.size W0 w')) := by
                  intro X bX
                  have h := readRanges_any g _ _ _ _ X (TB.below bX.out) KB (HE.out.below bX.out) LB
                  rw [hr] at h
                  refine h.mono ?_
                  rintro e w' ⟨hb, v', rfl, hv'⟩
                  obtain ⟨sa, sn, sc, rfl⟩ := Lst.slice hv'
                  exact ⟨⟨sa, sn, sc, rfl, Lst.low hv' bX.out.size (fun _ _ h => h)⟩, bX.out.trans (hb.mono bX.out.size)⟩
                have HREL : Hid (RR = some (RelT.mk xo xd true rs)) := by show RR = _; rw [HRR.out, hspec, hx, hr]
                clear TA TB KA KB LB HE hspec hr1 hr2 ht' HT hnl hnl'
                have hic : ¬ cap < i := by omega
                have hwr : IntKind.i64.wrap ((i : Int) + 1) = (i : Int) + 1 := by rw [IntKind.wrap_i64]; omega
                have h01 : (0 : Int) ≤ (i : Int) + 1 := by omega
                have hic2 : ¬ (i : Int) + 1 < (i : Int) := by omega
                have hcp2 : ¬ cap = i + 1 := fun h => hcp h.symm
                clear hx hr HRR
                go_wp2_with fail
                refine wp_region_held_drew (S := fun _ => True) (by kernel_rfl) trivial (fun _ => ?_)
                refine wpAnyH_take (i := 0) (oi := Oper.mk (some 18) _ _ _ _ _) (v := .slice (some ⟨g, off, none⟩) n cap) rfl (by kernel_rfl) (by kernel_rfl) (by kernel_rfl) (fun _ _ _ h => h) (Or.inl ⟨by rfl, ?_⟩) trivial ?_
                · intro wX _
                  go_simp
                simp only [Act.put, List.setIfInBounds_toArray, List.set_cons_succ, List.set_cons_zero]
                refine wpAnyH_take (i := 1) (oi := Oper.mk (some 19) _ _ _ _ _) (v := .int .i64 (i : Int)) rfl (by kernel_rfl) (by kernel_rfl) (by kernel_rfl) (fun _ _ _ h => h) (Or.inl ⟨by rfl, ?_⟩) trivial ?_
                · intro wX _
                  go_simp
                simp only [Act.put, List.setIfInBounds_toArray, List.set_cons_succ, List.set_cons_zero]
                refine wpAnyH_take (i := 2) (oi := Oper.mk (some 20) _ _ _ _ _) (v := .slice (some ⟨g, off, none⟩) i cap) rfl (by kernel_rfl) (by kernel_rfl) (by kernel_rfl) (fun _ _ _ h => h) (Or.inl ⟨by rfl, ?_⟩) trivial ?_
                · intro wX _
                  go_simp
                simp only [Act.put, List.setIfInBounds_toArray, List.set_cons_succ, List.set_cons_zero]
                refine wpAnyH_take (i := 4) (oi := Oper.mk (some 22) _ _ _ _ _) (v := .string ⟨#[33, 61]⟩) rfl (by kernel_rfl) (by kernel_rfl) (by kernel_rfl) (fun _ _ _ h => h) (Or.inl ⟨by rfl, ?_⟩) trivial ?_
                · intro wX _
                  go_simp
                simp only [Act.put, List.setIfInBounds_toArray, List.set_cons_succ, List.set_cons_zero]
                refine wpAnyH_take (i := 5) (oi := Oper.mk (some 23) _ _ _ _ _) (v := .bool true) rfl (by kernel_rfl) (by kernel_rfl) (by kernel_rfl) (fun _ _ _ h => h) (Or.inl ⟨by rfl, ?_⟩) trivial ?_
                · intro wX _
                  go_simp
                simp only [Act.put, List.setIfInBounds_toArray, List.set_cons_succ, List.set_cons_zero]
                refine wpAnyH_take (i := 6) (oi := Oper.mk (some 24) _ _ _ _ _) (v := .slice (some ⟨g, off, none⟩) n cap) rfl (by kernel_rfl) (by kernel_rfl) (by kernel_rfl) (fun _ _ _ h => h) (Or.inl ⟨by rfl, ?_⟩) trivial ?_
                · intro wX _
                  go_simp
                simp only [Act.put, List.setIfInBounds_toArray, List.set_cons_succ, List.set_cons_zero]
                refine wpAnyH_take (i := 7) (oi := Oper.mk (some 25) _ _ _ _ _) (v := .int .i64 (i : Int)) rfl (by kernel_rfl) (by kernel_rfl) (by kernel_rfl) (fun _ _ _ h => h) (Or.inl ⟨by rfl, ?_⟩) trivial ?_
                · intro wX _
                  go_simp
                simp only [Act.put, List.setIfInBounds_toArray, List.set_cons_succ, List.set_cons_zero]
                refine wpAnyH_take (i := 8) (oi := Oper.mk (some 26) _ _ _ _ _) (v := .int .i64 ((i : Int) + 1)) rfl (by kernel_rfl) (by kernel_rfl) (by kernel_rfl) (fun _ _ _ h => h) (Or.inl ⟨by rfl, ?_⟩) trivial ?_
                · intro wX _
                  go_simp
                simp only [Act.put, List.setIfInBounds_toArray, List.set_cons_succ, List.set_cons_zero]
                refine wpAnyH_take (i := 9) (oi := Oper.mk (some 27) _ _ _ _ _) (v := .slice (some ⟨g, off + (i + 1), none⟩) (n - (i + 1)) (cap - (i + 1))) rfl (by kernel_rfl) (by kernel_rfl) (by kernel_rfl) (fun _ _ _ h => h) (Or.inl ⟨by rfl, ?_⟩) trivial ?_
                · intro wX _
                  go_simp
                simp only [Act.put, List.setIfInBounds_toArray, List.set_cons_succ, List.set_cons_zero]
                refine wpAnyH_ready (rs := [3]) (by kernel_rfl) (by simp) ?_
                refine AllReadyH.cons (o := Oper.mk (some 21) _ _ _ _ _) rfl (fun K hK => ?_) AllReadyH.nil
                go_simp
                refine (CX.out _ b0).mono ?_
                rintro e v1 ⟨rfl, b1⟩
                refine hK.out _ _ trivial (fun _ => ?_)
                clear hK K
                refine wpAnyH_ready (rs := [10]) (by kernel_rfl) (by simp) ?_
                refine AllReadyH.cons (o := Oper.mk (some 28) _ _ _ _ _) rfl (fun K hK => ?_) AllReadyH.nil
                go_simp
                refine (CR.out _ b1).mono ?_
                rintro e v2 ⟨⟨sa, sn, sc, rfl, HSV⟩, b2⟩
                have BR1 := Blk.on BR b2.out
                have HB1 := hide (HB.out.trans (b2.out.mono HB.out.size))
                obtain ⟨f0, f1, f2, f3⟩ : v2.frozen? ⟨w.heap.size, 0, none⟩ = false ∧ v2.frozen? ⟨w.heap.size, 1, none⟩ = false ∧ v2.frozen? ⟨w.heap.size, 2, none⟩ = false ∧ v2.frozen? ⟨w.heap.size, 3, none⟩ = false := ⟨BR1.out.free 0, BR1.out.free 1, BR1.out.free 2, BR1.out.free 3⟩
                obtain ⟨c0, c1, c2, c3⟩ := BR1.out.four
                refine hK.out _ _ trivial (fun _ => ?_)
                clear hK K
                refine wpAnyH_take (i := 11) (oi := Oper.mk (some 29) _ _ _ _ _) (v := .agg #[.int .u8 (xo.toNat : Int), .int .i64 (xd : Int), .bool true, .slice sa sn sc]) rfl (by kernel_rfl) (by kernel_rfl) (by kernel_rfl) (fun _ _ _ h => h) (Or.inl ⟨by rfl, ?_⟩) trivial ?_
                · intro wX _
                  go_simp
                simp only [Act.put, List.setIfInBounds_toArray, List.set_cons_succ, List.set_cons_zero]
                refine wpAnyH_ready (rs := [12]) (by kernel_rfl) (by simp) ?_
                refine AllReadyH.cons (o := Oper.mk none _ _ _ _ _) rfl (fun K hK => ?_) AllReadyH.nil
                go_simp
                refine hK.out _ _ trivial (fun _ => ?_)
                clear hK K
                refine wpAnyH_done (by kernel_rfl) ?_ _
                go_wp2
                refine bodyPost_ret (results_rel rfl _ _ _ _ _ _ _ rfl (BR1.out.put4 _ _ _ _)) rfl ?_
                refine Ans.ret HREL.out (below_put4 HB1.out (Nat.le_refl _) _ _ _ _) ⟨.slice sa sn sc, rfl, ?_⟩
                exact (HSV.out.kt (S := fun ty => ty ≠ 229) (kt_put4 BR1.out _ _ _ _) (by decide) (fun _ _ h => h)).low HWS.out (fun _ _ h => h)

        · have hq1 := ne_lit hs
          have hq2 := ne_lit hs2
          have HNE' : Hid (∀ j u, j < i + 1 → ts[j]? = some u → isEq u = false) := by
            intro j u hj hu
            by_cases hj' : j < i
            · exact HNE.out j u hj' hu
            · obtain rfl : j = i := by omega
              rw [ht', Option.some.injEq] at hu
              subst hu
              unfold isEq
              rw [beq_eq_false_iff_ne.2 hs, beq_eq_false_iff_ne.2 hs2]; rfl
          clear hs hs2 ht' hnl hnl'
          go_wp2
          exact ⟨⟨i + 1, by go_num, by omega, trivial, HNE'⟩, by simp [intOf]; omega⟩
    · obtain rfl : i = n := by omega
      have hlt' : ¬ (i : Int) < (i : Int) := by omega
      have HNO : Hid (RR = none) := HRR.out.trans <| rel_none (fun j u hu => HNE.out j u (by
        rcases Nat.lt_or_ge j ts.length with q | q
        · omega
        · rw [List.getElem?_eq_none q] at hu; cases hu) hu)
      clear hnl hnl'
      go_wp2
      exact ⟨rfl, Ans.panic HNO.out HB.out⟩

end Go.Proofs.YtkbciljfjijclaaGreatDoor
