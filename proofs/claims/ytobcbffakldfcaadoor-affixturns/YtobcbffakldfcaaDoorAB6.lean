/-
  Turning changes just what it should: the law's walk.
-/
import Derived.Test.YtobcbffakldfcaaDoorAB5
namespace Go.Proofs.YtobcbffakldfcaaDoor
open Go.RowKit

theorem turn_none (f t : Int) (ts : List Tok) (h : f ≠ t) : hasT (turnT f t ts) f = false := by
  unfold hasT turnT
  induction ts with
  | nil => rfl
  | cons a l ih =>
    rw [List.map_cons, List.any_cons, ih, Bool.or_false]
    by_cases hk : a.kind = f
    · rw [if_pos hk]; exact decide_eq_false (fun e => h e.symm)
    · rw [if_neg hk]; exact decide_eq_false hk
theorem turn_both (f t : Int) (ts : List Tok) : hasT (turnT f t ts) t = (hasT ts f || hasT ts t) := by
  unfold hasT turnT
  induction ts with
  | nil => rfl
  | cons a l ih =>
    rw [List.map_cons, List.any_cons, List.any_cons, List.any_cons, ih]
    by_cases hk : a.kind = f
    · rw [if_pos hk, decide_eq_true (show (⟨t, 0, ⟨#[]⟩⟩ : Tok).kind = t from rfl), decide_eq_true hk]
      simp
    · rw [if_neg hk, decide_eq_false hk]
      cases decide (a.kind = t) <;> simp
theorem turn_tok (f t : Int) (ts : List Tok) (k : Nat) (h : k < ts.length) : tokN (turnT f t ts) k = turn1 f t (tokN ts k) := by
  have e : tokN ts k = ts[k] := tokN_get (List.getElem?_eq_getElem h)
  rw [e]
  apply tokN_get
  unfold turnT
  rw [List.getElem?_map, List.getElem?_eq_getElem h]
  rfl

set_option maxRecDepth 100000 in
set_option maxHeartbeats 4000000 in
theorem turns_row {w : World} {v : Value} {ts : List Tok} (f t : Int) (h : TSl w v ts) (hl : ts.length * 32 ≤ 140737488355328) (hT : Wd w) :
    Calls Tryd.prog 7 #[v, .int .i64 f, .int .i64 t] w fun e w' => e = .returned (.bool true) ∧ Below w.heap.size w w' := by
  have TL := hide h
  have H1 := hide (Turn_any f t h hl)
  obtain ⟨ao, cap, rfl, hcap, h3⟩ := h
  have HT := hide hT
  obtain ⟨L, hL⟩ : ∃ L, L = ts.length := ⟨_, rfl⟩
  have HL := hide hL
  rw [← hL] at H1 TL hl hcap ⊢
  clear hL hT
  have AT : Hid (∀ k, k < L → ∃ b o, ao = some ⟨b, o, none⟩ ∧ TkAt w b o ts) := hide (fun k hk => by
    rcases h3 with rfl | ⟨b, o, h4, h5⟩
    · rw [HL.out] at hk; simp at hk
    · exact ⟨b, o, h4, h5⟩)
  clear h3
  go_enter Tryd.func7, Tryd.ntmps7
  go_wp2_with fail
  refine H1.out.mono ?_
  rintro e w1 ⟨g, rfl, hg, hbk, hb1⟩
  have BK := hide hbk
  have B1 := hide hb1
  have T1 : Hid (TSl w1 (.slice (some ⟨g, 0, none⟩) L L) (turnT f t ts)) := hide (by
    have q := TSl.of_blk hbk L (by rw [turnT_len, ← HL.out]; exact Nat.le_refl _)
    rw [turnT_len, ← HL.out] at q
    exact q)
  have hle : (turnT f t ts).length ≤ 140737488355328 := by rw [turnT_len, ← HL.out]; omega
  clear H1 hbk hb1
  have HH : Hid (f ≠ t → Calls Tryd.prog 16 #[.slice (some ⟨g, 0, none⟩) L L, .int .i64 f] w1 fun e w' => e = .returned (.bool false) ∧ Below w1.heap.size w1 w') := hide (fun hne => by
    have q := Has_any f T1.out hle
    rw [turn_none f t ts hne] at q
    exact q)
  have KT1 : Hid (∀ w', Below w1.heap.size w1 w' → Blk w' g (cellsT (turnT f t ts)).toArray 32) := hide (fun w' hb => BK.out.below hb BK.out.lt)
  have KH : Hid (∀ X, Below w1.heap.size w1 X → (Calls Tryd.prog 16 #[.slice (some ⟨g, 0, none⟩) L L, .int .i64 t] X fun e w' => e = .returned (.bool (hasT ts f || hasT ts t)) ∧ Below X.heap.size X w') ∧ (∀ z, Calls Tryd.prog 16 #[.slice ao L cap, .int .i64 z] X fun e w' => e = .returned (.bool (hasT ts z)) ∧ Below X.heap.size X w') ∧ Calls Tryd.prog 18 #[] X fun e w' => e = .returned (.bool true) ∧ Below X.heap.size X w') := hide (fun X hX => ⟨by
    have q := Has_any t (T1.out.below hX) hle
    rw [turn_both f t ts] at q
    exact q, fun z => Has_any z (TL.out.below (B1.out.trans (hX.mono B1.out.size))) (by rw [← HL.out]; omega), fixed13_any X (HT.out.below (B1.out.trans (hX.mono B1.out.size)))⟩)
  obtain ⟨wx, hwx⟩ : ∃ wx, wx = w1 := ⟨_, rfl⟩
  by_cases hft : f = t
  · have q1 : (f == t) = true := beq_iff_eq.2 hft
    have q2 : (f != t) = false := by rw [bne, q1]; rfl
    have BX : Hid (Below w1.heap.size w1 wx) := hide (by rw [hwx]; exact Below.refl _ _)
    have HX := hide hwx.symm
    clear hft hwx HH T1 BK hle
    go_wp2_with (simp only [HX.out])
    clear HX
    go_wp2
    go_loopw [8] (fun q wr => ∃ k : Nat, k ≤ L ∧ q = .int .i64 (k : Int) ∧ Hid (Below w1.heap.size w1 wr)) (fun q _ => L - (intOf q).toNat)
    case atStart => exact ⟨0, Nat.zero_le _, rfl, BX⟩
    case round =>
      obtain ⟨k, hk, rfl, HW⟩ := hrel
      by_cases hlt : k < L
      · have hlt' : (k : Int) < (L : Int) := by omega
        have hkt : k < ts.length := by rw [← HL.out]; exact hlt
        obtain ⟨b, o, rfl, hA⟩ := AT.out k hlt
        obtain ⟨c0, c1, c2⟩ := (hA.below (B1.out.trans (HW.out.mono B1.out.size))) k hkt
        have QB := KT1.out wr HW.out
        obtain ⟨y0, y1, y2⟩ := cells_at (turnT f t ts) k (by rw [turnT_len]; exact hkt)
        have d0 : wr.cell? ⟨g, k * 3, none⟩ = some (.int .i64 (tokN (turnT f t ts) k).kind) := by rw [QB.cell]; simpa using y0
        have d1 : wr.cell? ⟨g, k * 3 + 1, none⟩ = some (.int .i64 (tokN (turnT f t ts) k).many) := by rw [QB.cell]; simpa using y1
        have d2 : wr.cell? ⟨g, k * 3 + 2, none⟩ = some (.string (tokN (turnT f t ts) k).text) := by rw [QB.cell]; simpa using y2
        rw [turn_tok f t ts k hkt] at d0 d1 d2
        generalize tokN ts k = x at *
        clear y0 y1 y2 QB hA hkt
        by_cases hm : x.kind = f
        · have hm' : (x.kind == f) = true := beq_iff_eq.2 hm
          have hm2 : (x.kind != f) = false := by rw [bne, hm']; rfl
          rw [show turn1 f t x = ⟨t, 0, ⟨#[]⟩⟩ by unfold turn1; rw [if_pos hm]] at d0 d1 d2
          have nq : ∀ W, (binOp .neq 32 (.agg #[.int .i64 t, .int .i64 0, .string ⟨#[]⟩]) (.agg #[.int .i64 t, .int .i64 0, .string ⟨#[]⟩])).run Tryd.prog W = .ok (.bool false) W := fun W => by
            have q := tok_neq ⟨t, 0, ⟨#[]⟩⟩ ⟨t, 0, ⟨#[]⟩⟩ W
            rw [decide_eq_true rfl] at q
            exact q
          simp only at d0 d1 d2
          clear hm
          have HN := hide HW.out.drew
          go_wp2_with fail
          go_region
          go_wp2
          exact ⟨⟨k + 1, by omega, by go_num, HN⟩, by simp [intOf]; omega⟩
        · have hm' : (x.kind == f) = false := beq_eq_false_iff_ne.2 hm
          have hm2 : (x.kind != f) = true := by rw [bne, hm']; rfl
          rw [show turn1 f t x = x by unfold turn1; rw [if_neg hm]] at d0 d1 d2
          have nq : ∀ W, (binOp .neq 32 (.agg #[.int .i64 x.kind, .int .i64 x.many, .string x.text]) (.agg #[.int .i64 x.kind, .int .i64 x.many, .string x.text])).run Tryd.prog W = .ok (.bool false) W := fun W => by
            have q := tok_neq x x W
            rw [decide_eq_true rfl] at q
            exact q
          clear hm
          have HN := hide HW.out.drew
          go_wp2_with fail
          go_region
          go_wp2
          exact ⟨⟨k + 1, by omega, by go_num, HN⟩, by simp [intOf]; omega⟩
      · obtain rfl : k = L := by omega
        have hlt' : ¬ (k : Int) < (k : Int) := by omega
        have J1 := hide (KH.out wr HW.out).1
        clear hlt AT
        go_wp2_with fail
        refine J1.out.mono ?_
        rintro e w2 ⟨rfl, hb2⟩
        have W2 := hide (HW.out.trans (hb2.mono HW.out.size))
        have J2 := hide ((KH.out w2 W2.out).2.1 f)
        clear hb2 J1
        go_wp2_with fail
        refine J2.out.mono ?_
        rintro e w3 ⟨rfl, hb3⟩
        have W3 := hide (W2.out.trans (hb3.mono W2.out.size))
        have J3 := hide ((KH.out w3 W3.out).2.1 t)
        have J4 := hide (KH.out w3 W3.out).2.2
        have K4 : Hid (∀ X, Below w3.heap.size w3 X → Calls Tryd.prog 18 #[] X fun e w' => e = .returned (.bool true) ∧ Below w.heap.size w w') := hide (fun X hX => ((KH.out X (W3.out.trans (hX.mono W3.out.size))).2.2).mono fun e w' ⟨h1, h2⟩ => ⟨h1, (B1.out.trans ((W3.out.trans (hX.mono W3.out.size)).mono B1.out.size)).trans (h2.mono (B1.out.trans ((W3.out.trans (hX.mono W3.out.size)).mono B1.out.size)).size)⟩)
        clear hb3 J2 KH J4
        generalize hasT ts f = A at *
        generalize hasT ts t = C at *
        cases A
        · go_wp2_with fail
          refine J3.out.mono ?_
          rintro e w4 ⟨rfl, hb4⟩
          have J5 := hide (K4.out w4 hb4)
          clear hb4 J3 K4
          cases C
          all_goals
            go_wp2_with fail
            refine J5.out.mono ?_
            rintro e w5 ⟨rfl, hb5⟩
            go_wp2
            go_ret
            exact ⟨rfl, hb5⟩
        · have J5 := hide (K4.out w3 (Below.refl _ _))
          clear J3 K4
          go_wp2_with fail
          refine J5.out.mono ?_
          rintro e w5 ⟨rfl, hb5⟩
          go_wp2
          go_ret
          exact ⟨rfl, hb5⟩
  · have q1 : (f == t) = false := beq_eq_false_iff_ne.2 hft
    have q2 : (f != t) = true := by rw [bne, q1]; rfl
    have HH2 := hide (HH.out hft)
    clear hft hwx HH T1 BK hle wx
    go_wp2_with fail
    refine HH2.out.mono ?_
    rintro e wx ⟨rfl, hbx⟩
    have BX := hide hbx
    clear hbx HH2
    go_wp2
    go_loopw [8] (fun q wr => ∃ k : Nat, k ≤ L ∧ q = .int .i64 (k : Int) ∧ Hid (Below w1.heap.size w1 wr)) (fun q _ => L - (intOf q).toNat)
    case atStart => exact ⟨0, Nat.zero_le _, rfl, BX⟩
    case round =>
      obtain ⟨k, hk, rfl, HW⟩ := hrel
      by_cases hlt : k < L
      · have hlt' : (k : Int) < (L : Int) := by omega
        have hkt : k < ts.length := by rw [← HL.out]; exact hlt
        obtain ⟨b, o, rfl, hA⟩ := AT.out k hlt
        obtain ⟨c0, c1, c2⟩ := (hA.below (B1.out.trans (HW.out.mono B1.out.size))) k hkt
        have QB := KT1.out wr HW.out
        obtain ⟨y0, y1, y2⟩ := cells_at (turnT f t ts) k (by rw [turnT_len]; exact hkt)
        have d0 : wr.cell? ⟨g, k * 3, none⟩ = some (.int .i64 (tokN (turnT f t ts) k).kind) := by rw [QB.cell]; simpa using y0
        have d1 : wr.cell? ⟨g, k * 3 + 1, none⟩ = some (.int .i64 (tokN (turnT f t ts) k).many) := by rw [QB.cell]; simpa using y1
        have d2 : wr.cell? ⟨g, k * 3 + 2, none⟩ = some (.string (tokN (turnT f t ts) k).text) := by rw [QB.cell]; simpa using y2
        rw [turn_tok f t ts k hkt] at d0 d1 d2
        generalize tokN ts k = x at *
        clear y0 y1 y2 QB hA hkt
        by_cases hm : x.kind = f
        · have hm' : (x.kind == f) = true := beq_iff_eq.2 hm
          have hm2 : (x.kind != f) = false := by rw [bne, hm']; rfl
          rw [show turn1 f t x = ⟨t, 0, ⟨#[]⟩⟩ by unfold turn1; rw [if_pos hm]] at d0 d1 d2
          have nq : ∀ W, (binOp .neq 32 (.agg #[.int .i64 t, .int .i64 0, .string ⟨#[]⟩]) (.agg #[.int .i64 t, .int .i64 0, .string ⟨#[]⟩])).run Tryd.prog W = .ok (.bool false) W := fun W => by
            have q := tok_neq ⟨t, 0, ⟨#[]⟩⟩ ⟨t, 0, ⟨#[]⟩⟩ W
            rw [decide_eq_true rfl] at q
            exact q
          simp only at d0 d1 d2
          clear hm
          have HN := hide HW.out.drew
          go_wp2_with fail
          go_region
          go_wp2
          exact ⟨⟨k + 1, by omega, by go_num, HN⟩, by simp [intOf]; omega⟩
        · have hm' : (x.kind == f) = false := beq_eq_false_iff_ne.2 hm
          have hm2 : (x.kind != f) = true := by rw [bne, hm']; rfl
          rw [show turn1 f t x = x by unfold turn1; rw [if_neg hm]] at d0 d1 d2
          have nq : ∀ W, (binOp .neq 32 (.agg #[.int .i64 x.kind, .int .i64 x.many, .string x.text]) (.agg #[.int .i64 x.kind, .int .i64 x.many, .string x.text])).run Tryd.prog W = .ok (.bool false) W := fun W => by
            have q := tok_neq x x W
            rw [decide_eq_true rfl] at q
            exact q
          clear hm
          have HN := hide HW.out.drew
          go_wp2_with fail
          go_region
          go_wp2
          exact ⟨⟨k + 1, by omega, by go_num, HN⟩, by simp [intOf]; omega⟩
      · obtain rfl : k = L := by omega
        have hlt' : ¬ (k : Int) < (k : Int) := by omega
        have J1 := hide (KH.out wr HW.out).1
        clear hlt AT
        go_wp2_with fail
        refine J1.out.mono ?_
        rintro e w2 ⟨rfl, hb2⟩
        have W2 := hide (HW.out.trans (hb2.mono HW.out.size))
        have J2 := hide ((KH.out w2 W2.out).2.1 f)
        clear hb2 J1
        go_wp2_with fail
        refine J2.out.mono ?_
        rintro e w3 ⟨rfl, hb3⟩
        have W3 := hide (W2.out.trans (hb3.mono W2.out.size))
        have J3 := hide ((KH.out w3 W3.out).2.1 t)
        have J4 := hide (KH.out w3 W3.out).2.2
        have K4 : Hid (∀ X, Below w3.heap.size w3 X → Calls Tryd.prog 18 #[] X fun e w' => e = .returned (.bool true) ∧ Below w.heap.size w w') := hide (fun X hX => ((KH.out X (W3.out.trans (hX.mono W3.out.size))).2.2).mono fun e w' ⟨h1, h2⟩ => ⟨h1, (B1.out.trans ((W3.out.trans (hX.mono W3.out.size)).mono B1.out.size)).trans (h2.mono (B1.out.trans ((W3.out.trans (hX.mono W3.out.size)).mono B1.out.size)).size)⟩)
        clear hb3 J2 KH J4
        generalize hasT ts f = A at *
        generalize hasT ts t = C at *
        cases A
        · go_wp2_with fail
          refine J3.out.mono ?_
          rintro e w4 ⟨rfl, hb4⟩
          have J5 := hide (K4.out w4 hb4)
          clear hb4 J3 K4
          cases C
          all_goals
            go_wp2_with fail
            refine J5.out.mono ?_
            rintro e w5 ⟨rfl, hb5⟩
            go_wp2
            go_ret
            exact ⟨rfl, hb5⟩
        · have J5 := hide (K4.out w3 (Below.refl _ _))
          clear J3 K4
          go_wp2_with fail
          refine J5.out.mono ?_
          rintro e w5 ⟨rfl, hb5⟩
          go_wp2
          go_ret
          exact ⟨rfl, hb5⟩

theorem affixTurns_row (W : World) (tab : Wd W) (v : Value) (ts : List Tok) (h : TSl W v ts) (_ : SzT ts) (hl : ts.length * 32 ≤ 140737488351232) (f t : Int) :
    Calls Tryd.prog 7 #[v, .int .i64 f, .int .i64 t] W fun e w' => e = .returned (.bool true) ∧ Below W.heap.size W w' := turns_row f t h (by omega) tab

end Go.Proofs.YtobcbffakldfcaaDoor
