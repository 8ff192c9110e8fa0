/-
  What rule's readAll does.
  What rule's readCondition does.
  What rule's readRule and readEntry do.
  What rule's readRules does.
  What rule's readRules does, of any text.
-/
import Derived.Test.YtkbciljfjijclaaGreatDoorAB19
namespace Go.Proofs.YtkbciljfjijclaaGreatDoor
open Go.RowKit

attribute [local go_sem] Oper.semAt_some

set_option maxRecDepth 100000 in
set_option maxHeartbeats 4000000 in
theorem readAll_any (g off cap : Nat) (ts : List Tok) (v : Value) (w : World) (hv : TokV w g off cap ts v) (ht : Tks ts) (he : Evs w) (hl : ts.length ≤ 1024) :
    Calls Tryz.prog 201 #[v] w (Ans ((splitT [97, 110, 100] ts).mapM relT) (fun ys v' W' => Lst w.heap.size 229 4 (ElRel w.heap.size) ys v' W') w) := by
  obtain rfl : v = .slice (some ⟨g, off, none⟩) ts.length cap := hv.1
  have BT := hide (fun X => between_any (some ⟨g, off, none⟩) ts.length cap ⟨#[97, 110, 100]⟩ X)
  obtain ⟨i0, hi, hz0, hz1, hz2⟩ := info_parts info_rel
  obtain ⟨xs, hxs⟩ : ∃ xs, xs = cutsAt [97, 110, 100] 0 0 ts := ⟨_, rfl⟩
  obtain ⟨rows, hrs⟩ : ∃ rows, rows = splitT [97, 110, 100] ts := ⟨_, rfl⟩
  have hrows : xs.map (fun x => (ts.take x.2).drop x.1) = rows := by rw [hxs, hrs]; exact cutsAt_split _ _
  have hin : ∀ x, x ∈ xs → x.1 ≤ x.2 ∧ x.2 ≤ ts.length := fun x hx => by
    rw [hxs] at hx
    have := cutsAt_in [97, 110, 100] ts 0 0 (Nat.le_refl _) x hx
    exact ⟨this.1, by simpa using this.2⟩
  have hxl : xs.length ≤ 1025 := by rw [hxs]; exact Nat.le_trans (cutsAt_len [97, 110, 100] ts 0 0) (by omega)
  rw [← hrs]
  have HXS := hide hxs
  have HRW := hide hrows
  clear hrs hxs hrows
  refine calls_pan Tryz.func201 rfl ?_
  simp only [Tryz.ntmps201, List.size_toArray, List.length_cons, List.length_nil, Nat.reduceAdd, Nat.reduceSub, Array.replicate_succ, Array.replicate_zero, List.push_toArray, List.append_toArray, List.nil_append, List.cons_append]
  refine WpAt.seq (WpAt.of_wp ?_)
  go_wp2
  refine WpAt.seq (WpAt.of_wp ?_)
  go_wp2
  refine WpAt.seq (WpAt.seq (WpAt.of_wp ?_))
  go_wp2_with fail
  refine (BT.out _).mono ?_
  rintro e w1 ⟨rfl, rfl⟩
  go_wp2
  have hB0 : Below w.heap.size w (((w.alloc (.cells #[.slice none 0 0] 172)).alloc (.cells #[.slice (some ⟨g, off, none⟩) ts.length cap] 112)).alloc (.cells #[.string ⟨#[97, 110, 100]⟩] 9)) := (((Below.refl _ w).alloc (Nat.le_refl _) _).alloc (by simp) _).alloc (by simp; omega) _
  have bO := ((Boxed.new w 172 (.slice none 0 0)).alloc (.cells #[.slice (some ⟨g, off, none⟩) ts.length cap] 112)).alloc (.cells #[.string ⟨#[97, 110, 100]⟩] 9)
  have bx1 := (Boxed.new (w.alloc (.cells #[.slice none 0 0] 172)) 112 (.slice (some ⟨g, off, none⟩) ts.length cap)).alloc (.cells #[.string ⟨#[97, 110, 100]⟩] 9)
  have bx2 := Boxed.new ((w.alloc (.cells #[.slice none 0 0] 172)).alloc (.cells #[.slice (some ⟨g, off, none⟩) ts.length cap] 112)) 9 (.string ⟨#[97, 110, 100]⟩)
  simp only [World.size_alloc] at bx1 bx2
  obtain ⟨W0, hW0⟩ : ∃ W0, W0 = ((w.alloc (.cells #[.slice none 0 0] 172)).alloc (.cells #[.slice (some ⟨g, off, none⟩) ts.length cap] 112)).alloc (.cells #[.string ⟨#[97, 110, 100]⟩] 9) := ⟨_, rfl⟩
  have hsz0 : W0.heap.size = w.heap.size + 3 := by rw [hW0]; simp
  rw [← hW0] at hB0 bO bx1 bx2 ⊢
  clear hW0
  have hseq := between1_pan (w.heap.size + 1) (w.heap.size + 1 + 1) g off cap ⟨#[97, 110, 100]⟩ ts _ W0 (by omega) (by omega) bx1.cell bx2.cell (hv.below hB0)
  rw [show bys ⟨#[97, 110, 100]⟩ = [97, 110, 100] from rfl, ← HXS.out] at hseq
  refine WpAt.block (WpAt.range Tryz.func201 (gf := 149) (lb := #[.pointer (some ⟨w.heap.size + 1, 0, none⟩), .pointer (some ⟨w.heap.size + 1 + 1, 0, none⟩)]) rfl (enters_of Tryz.func149 (by kernel_rfl) rfl)
    hseq (fun h k => h.trans k) (fun {X Y} h => fun k hk => h.below.block k ?klt) (fun _ => rfl)
    (fun k W => (∃ v ys, Boxed W w.heap.size 172 v ∧ (rows.take k).mapM relT = some ys ∧ Lst w.heap.size 229 4 (ElRel w.heap.size) ys v W) ∧ Boxed W (w.heap.size + 1) 112 (.slice (some ⟨g, off, none⟩) ts.length cap) ∧ Boxed W (w.heap.size + 1 + 1) 9 (.string ⟨#[97, 110, 100]⟩) ∧ Below w.heap.size w W) (fun W => rows.mapM relT = none ∧ Below w.heap.size w W)
    ?inv ?start (fun x => { tmps := #[.slice (some ⟨g, off, none⟩) ts.length cap, undef, .slice none 0 0, .pointer (some ⟨w.heap.size, 0, none⟩), .slice (some ⟨g, cutA off cap x.1, none⟩) (x.2 - x.1) (cap - x.1), .slice (some ⟨g, off, none⟩) ts.length cap, .func (.func 149) #[] #[.pointer (some ⟨w.heap.size + 1, 0, none⟩), .pointer (some ⟨w.heap.size + 1 + 1, 0, none⟩)], .slice (some ⟨g, cutA off cap x.1, none⟩) (x.2 - x.1) (cap - x.1), undef, undef, undef, undef, undef, undef], defers := [] }) ?assign ?body ?done ?pan) ?x1 ?x2
  case klt =>
    have := hv.2.2.2.1
    rw [hsz0]
    simp only [List.mem_cons, List.not_mem_nil, or_false] at hk
    omega
  case x1 => exact fun _ _ _ h => h
  case x2 => exact fun _ _ _ h => h
  case inv =>
    rintro k X Y ⟨⟨v, ys, hv, hm, hr⟩, hb1, hb2, hB⟩ hx
    exact ⟨⟨v, ys, boxed_xt hv hx, hm, hr.kt (S := fun _ => True) (KT.of_xt hx) trivial (ElRel.kt (S := fun _ => True) trivial X Y (KT.of_xt hx))⟩, boxed_xt hb1 hx, boxed_xt hb2 hx, hB.trans (hx.below.mono (by omega))⟩
  case start => exact ⟨⟨_, [], bO, rfl, Lst.nil _ _ _ _ _⟩, bx1, bx2, hB0⟩
  case assign =>
    intro l x W K hK
    gi_wp2
    exact hK
  case body =>
    rintro l k x W hx ⟨⟨v, ys, hbv, hm, hlst⟩, hb1, hb2, hB⟩ hsz
    have hxm := hin x (List.mem_of_getElem? hx)
    have hrk : rows[k]? = some ((ts.take x.2).drop x.1) := by rw [← HRW.out, List.getElem?_map, hx]; rfl
    have TV := (hv.below hB).cut x.1 x.2 hxm.1 hxm.2
    have TK := ht.cut x.1 x.2
    have EV := he.below hB
    have TL : ((ts.take x.2).drop x.1).length ≤ 1024 := by simp; omega
    have hyl : ys.length = k := by
      have := mapM_len hm
      have hk : k < xs.length := by
        rcases Nat.lt_or_ge k xs.length with q | q
        · exact q
        · rw [List.getElem?_eq_none q] at hx; cases hx
      have h2 : rows.length = xs.length := by rw [← HRW.out]; simp
      rw [this, List.length_take]; omega
    have hk1 : k < 1025 := by
      rcases Nat.lt_or_ge k xs.length with q | q
      · omega
      · rw [List.getElem?_eq_none q] at hx; cases hx
    have hml : 1026 ≤ maxLen := by decide
    obtain ⟨R, hR⟩ : ∃ R, R = (ts.take x.2).drop x.1 := ⟨_, rfl⟩
    rw [← hR] at hrk TV TK TL
    obtain ⟨qa, hqa⟩ : ∃ qa, qa = cutA off cap x.1 := ⟨_, rfl⟩
    obtain ⟨qn, hqn⟩ : ∃ qn, qn = x.2 - x.1 := ⟨_, rfl⟩
    obtain ⟨qc, hqc⟩ : ∃ qc, qc = cap - x.1 := ⟨_, rfl⟩
    rw [← hqa, ← hqn, ← hqc] at TV
    simp only [← hqa, ← hqn, ← hqc]
    have HM := hide hm
    have HR := hide hrk
    have HYL := hide hyl
    have c0 := hbv.cell
    have b0 : Hid (Below W.heap.size W W.drew) := bdrewD W
    have HBW := hide hB
    clear hxm hR hqa hqn hqc hm hrk hyl
    cases hf : relT R with
    | none =>
      have C0 : Hid (∀ X, Hid (Below W.heap.size W X) → Calls Tryz.prog 250 #[.slice (some ⟨g, qa, none⟩) qn qc] X fun e w' => e = .panicked PC ∧ Hid (Below W.heap.size W w')) := by
        intro X bX
        have h := readRelation_any g qa qc R _ X (TV.below bX.out) TK (EV.below bX.out) TL
        rw [hf] at h
        refine h.mono ?_
        rintro e w' ⟨hb, rfl⟩
        exact ⟨rfl, bX.out.trans (hb.mono bX.out.size)⟩
      have HF := hide hf
      clear hf TV TK EV TL hB
      gi_wp2
      refine region_round (S := fun _ => True) (by kernel_rfl) (by kernel_rfl) (fun ⟨_, _, h⟩ => h) trivial (fun _ => ?_)
      refine wpAnyH_take (i := 1) (oi := Oper.mk (some 9) _ _ _ _ _) (v := .slice (some ⟨g, qa, none⟩) qn qc) rfl (by kernel_rfl) (by kernel_rfl) (by kernel_rfl) (fun _ _ _ h => h) (Or.inl ⟨by rfl, ?_⟩) trivial ?_
      · intro wX _
        go_simp
      simp only [Act.put, List.setIfInBounds_toArray, List.set_cons_succ, List.set_cons_zero]
      refine wpAnyH_ready (rs := [0, 2]) (by kernel_rfl) (by simp) ?_
      refine AllReadyH.cons (o := Oper.mk (some 8) _ _ _ _ _) rfl (fun K hK => ?_) (AllReadyH.cons (o := Oper.mk (some 10) _ _ _ _ _) rfl (fun K hK => ?_) AllReadyH.nil)
      · go_simp
        refine hK.out _ _ trivial (fun _ => ?_)
        clear hK K
        refine wpAnyH_ready (rs := [2]) (by kernel_rfl) (by simp) ?_
        refine AllReadyH.cons (o := Oper.mk (some 10) _ _ _ _ _) rfl (fun K hK => ?_) AllReadyH.nil
        go_simp
        refine (C0.out _ b0).mono ?_
        rintro e v1 ⟨rfl, b1⟩
        exact ⟨rfl, rfl, (KeepsOthers.of_below b1.out).from _, mapM_bad HR.out HF.out, HBW.out.trans (b1.out.mono HBW.out.size)⟩
      · go_simp
        refine (C0.out _ b0).mono ?_
        rintro e v1 ⟨rfl, b1⟩
        exact ⟨rfl, rfl, (KeepsOthers.of_below b1.out).from _, mapM_bad HR.out HF.out, HBW.out.trans (b1.out.mono HBW.out.size)⟩
    | some y =>
      have C0 : Hid (∀ X, Hid (Below W.heap.size W X) → Calls Tryz.prog 250 #[.slice (some ⟨g, qa, none⟩) qn qc] X fun e w' => (∃ sa sn sc, e = .returned (.agg #[.int .u8 (y.op.toNat : Int), .int .i64 (y.div : Int), .bool y.neq, .slice sa sn sc]) ∧ Hid ((ElRel w.heap.size) y [.int .u8 (y.op.toNat : Int), .int .i64 (y.div : Int), .bool y.neq, .slice sa sn sc] w')) ∧ Hid (Below W.heap.size W w') ∧ w'.cell? ⟨w.heap.size, 0, none⟩ = some v) := by
        intro X bX
        have h := readRelation_any g qa qc R _ X (TV.below bX.out) TK (EV.below bX.out) TL
        rw [hf] at h
        refine h.mono ?_
        rintro e w' ⟨hb, v', rfl, hv'⟩
        have bb := bX.out.trans (hb.mono bX.out.size)
        have hxs : w.heap.size ≤ X.heap.size := Nat.le_trans HBW.out.size bX.out.size
        have cc : w'.cell? ⟨w.heap.size, 0, none⟩ = some v := (boxed_xt hbv (Xt.of_below bb (Nat.le_refl _))).cell
        obtain ⟨sv, rfl, hls⟩ := hv'
        obtain ⟨sa, sn, sc, rfl⟩ := Lst.slice hls
        exact ⟨⟨sa, sn, sc, rfl, ⟨_, rfl, Lst.low hls hxs (fun _ _ h => h)⟩⟩, bb, cc⟩
      have HF := hide hf
      obtain ⟨css, hcs1, hcs2, hcs3⟩ := hlst
      have HCS := hide (And.intro hcs1 (And.intro hcs2 hcs3))
      clear hf TV TK EV TL hB hcs1 hcs2 hcs3
      gi_wp2
      refine region_round (S := fun _ => True) (by kernel_rfl) (by kernel_rfl) (fun ⟨_, _, h⟩ => h) trivial (fun _ => ?_)
      refine wpAnyH_take (i := 1) (oi := Oper.mk (some 9) _ _ _ _ _) (v := .slice (some ⟨g, qa, none⟩) qn qc) rfl (by kernel_rfl) (by kernel_rfl) (by kernel_rfl) (fun _ _ _ h => h) (Or.inl ⟨by rfl, ?_⟩) trivial ?_
      · intro wX _
        go_simp
      simp only [Act.put, List.setIfInBounds_toArray, List.set_cons_succ, List.set_cons_zero]
      refine wpAnyH_ready (rs := [0, 2]) (by kernel_rfl) (by simp) ?_
      refine AllReadyH.cons (o := Oper.mk (some 8) _ _ _ _ _) rfl (fun K hK => ?_) (AllReadyH.cons (o := Oper.mk (some 10) _ _ _ _ _) rfl (fun K hK => ?_) AllReadyH.nil)
      · go_simp
        refine hK.out _ _ trivial (fun _ => ?_)
        clear hK K
        refine wpAnyH_ready (rs := [2]) (by kernel_rfl) (by simp) ?_
        refine AllReadyH.cons (o := Oper.mk (some 10) _ _ _ _ _) rfl (fun K hK => ?_) AllReadyH.nil
        go_simp
        refine (C0.out _ b0).mono ?_
        rintro e v1 ⟨⟨sa, sn, sc, rfl, HEL⟩, b1, cb1⟩
        refine hK.out _ _ trivial (fun _ => ?_)
        clear hK K
        have hxt : Xt W.heap.size W v1 := Xt.of_below b1.out (Nat.le_refl _)
        have hbv1 := boxed_xt hbv hxt
        have hrow1 := ownsRow_xt HCS.out.2.1 hxt
        have hsz1 : w.heap.size ≤ v1.heap.size := Nat.le_trans HBW.out.size b1.out.size
        have hyk := HYL.out
        have cb2 := (hbv1.alloc (.cells #[.int .u8 (y.op.toNat : Int), .int .i64 (y.div : Int), .bool y.neq, .slice sa sn sc] 229)).cell
        refine wpAnyH_ready (rs := [3]) (by kernel_rfl) (by simp) ?_
        refine AllReadyH.cons (o := Oper.mk (some 11) _ _ _ _ _) rfl (fun K hK => ?_) AllReadyH.nil
        go_simp
        refine hK.out _ _ trivial (fun _ => ?_)
        clear hK K
        refine wpAnyH_ready (rs := [4]) (by kernel_rfl) (by simp) ?_
        refine AllReadyH.cons (o := Oper.mk (some 12) _ _ _ _ _) rfl (fun K hK => ?_) AllReadyH.nil
        refine step_append_lies _ (by rfl) _ _ 172 (by rfl) w.heap.size 229 i0 (.agg #[.int .u8 0, .int .i64 0, .bool false, .slice none 0 0]) 4 48 Tryz.underlying172 hi hz0 hz1 hz2 rfl (by decide) v ys.length css.flatten (by rfl) (hrow1.alloc _) ⟨v1.heap.size, 0, none⟩ 1 1 [.int .u8 (y.op.toNat : Int), .int .i64 (y.div : Int), .bool y.neq, .slice sa sn sc] (by rfl) rfl (World.news_of_block (heap_alloc_new v1 _)) (by simp [Value.oneCell']) (by decide) (by omega) (by omega) (by simp; omega) _ rfl ?_
        intro g9 cap9 w9 hown9 hgrow9 _ _
        obtain ⟨g1, g2, g3, g4, g5, g6⟩ := Lst.grown (S := fun ty => ty ≠ 229 ∧ ty ≠ 172) (x := y) hbv1 (by decide) hsz1 (Nat.le_refl _) rfl (fun _ => Iff.rfl) (ElRel.kt ⟨by decide, by decide⟩) HEL.out css HCS.out.1 hrow1 (fun i x c hx hc => ⟨(HCS.out.2.2 i x c hx hc).1, ElRel.kt (S := fun _ => True) trivial _ _ (KT.of_xt hxt) _ _ (HCS.out.2.2 i x c hx hc).2⟩) hown9 hgrow9
        have cc9 := g1.cell
        have ff9 := g1.frozen
        have GG := hide (And.intro g2 (And.intro g3 (And.intro g4 (And.intro g5 g6))))
        clear g1 g2 g3 g4 g5 g6 hown9 hgrow9 hbv1 hrow1 cb2
        refine hK.out _ _ trivial (fun _ => ?_)
        clear hK K
        refine wpAnyH_ready (rs := [5]) (by kernel_rfl) (by simp) ?_
        refine AllReadyH.cons (o := Oper.mk none _ _ _ _ _) rfl (fun K hK => ?_) AllReadyH.nil
        go_simp
        refine hK.out _ _ trivial (fun _ => ?_)
        clear hK K
        refine wpAnyH_done (by kernel_rfl) ?_ _
        obtain ⟨g2, g3, g4, g5, g6⟩ := GG.out
        rw [HYL.out] at g2 g3 g4 g5 g6
        have hb1' := Boxed.kt (boxed_xt hb1 hxt) g6 (by decide)
        have hb2' := Boxed.kt (boxed_xt hb2 hxt) g6 (by decide)
        have hB' := (HBW.out.trans (b1.out.mono HBW.out.size)).trans g5
        refine ⟨((KeepsOthers.of_below b1.out).trans g4).from _, ?_, ⟨_, _, g2, mapM_snoc HR.out HM.out HF.out, g3⟩, hb1', hb2', hB'⟩
        intro j hj
        simp only [List.mem_cons, List.not_mem_nil, or_false] at hj
        rcases hj with rfl | rfl | rfl
        · have hgl := hv.2.2.2.1
          exact (g5.block _ hgl).trans (b1.out.block _ (Nat.lt_of_lt_of_le hgl HBW.out.size))
        · exact (show _ = _ from hb1').trans (show _ = _ from hb1).symm
        · exact (show _ = _ from hb2').trans (show _ = _ from hb2).symm
      · go_simp
        refine (C0.out _ b0).mono ?_
        rintro e v1 ⟨⟨sa, sn, sc, rfl, HEL⟩, b1, cb1⟩
        refine hK.out _ _ trivial (fun _ => ?_)
        clear hK K
        have hxt : Xt W.heap.size W v1 := Xt.of_below b1.out (Nat.le_refl _)
        have hbv1 := boxed_xt hbv hxt
        have hrow1 := ownsRow_xt HCS.out.2.1 hxt
        have hsz1 : w.heap.size ≤ v1.heap.size := Nat.le_trans HBW.out.size b1.out.size
        have hyk := HYL.out
        have cb2 := (hbv1.alloc (.cells #[.int .u8 (y.op.toNat : Int), .int .i64 (y.div : Int), .bool y.neq, .slice sa sn sc] 229)).cell
        refine wpAnyH_ready (rs := [0, 3]) (by kernel_rfl) (by simp) ?_
        refine AllReadyH.cons (o := Oper.mk (some 8) _ _ _ _ _) rfl (fun K hK => ?_) (AllReadyH.cons (o := Oper.mk (some 11) _ _ _ _ _) rfl (fun K hK => ?_) AllReadyH.nil)
        · go_simp
          refine hK.out _ _ trivial (fun _ => ?_)
          clear hK K
          refine wpAnyH_ready (rs := [3]) (by kernel_rfl) (by simp) ?_
          refine AllReadyH.cons (o := Oper.mk (some 11) _ _ _ _ _) rfl (fun K hK => ?_) AllReadyH.nil
          go_simp
          refine hK.out _ _ trivial (fun _ => ?_)
          clear hK K
          refine wpAnyH_ready (rs := [4]) (by kernel_rfl) (by simp) ?_
          refine AllReadyH.cons (o := Oper.mk (some 12) _ _ _ _ _) rfl (fun K hK => ?_) AllReadyH.nil
          refine step_append_lies _ (by rfl) _ _ 172 (by rfl) w.heap.size 229 i0 (.agg #[.int .u8 0, .int .i64 0, .bool false, .slice none 0 0]) 4 48 Tryz.underlying172 hi hz0 hz1 hz2 rfl (by decide) v ys.length css.flatten (by rfl) (hrow1.alloc _) ⟨v1.heap.size, 0, none⟩ 1 1 [.int .u8 (y.op.toNat : Int), .int .i64 (y.div : Int), .bool y.neq, .slice sa sn sc] (by rfl) rfl (World.news_of_block (heap_alloc_new v1 _)) (by simp [Value.oneCell']) (by decide) (by omega) (by omega) (by simp; omega) _ rfl ?_
          intro g9 cap9 w9 hown9 hgrow9 _ _
          obtain ⟨g1, g2, g3, g4, g5, g6⟩ := Lst.grown (S := fun ty => ty ≠ 229 ∧ ty ≠ 172) (x := y) hbv1 (by decide) hsz1 (Nat.le_refl _) rfl (fun _ => Iff.rfl) (ElRel.kt ⟨by decide, by decide⟩) HEL.out css HCS.out.1 hrow1 (fun i x c hx hc => ⟨(HCS.out.2.2 i x c hx hc).1, ElRel.kt (S := fun _ => True) trivial _ _ (KT.of_xt hxt) _ _ (HCS.out.2.2 i x c hx hc).2⟩) hown9 hgrow9
          have cc9 := g1.cell
          have ff9 := g1.frozen
          have GG := hide (And.intro g2 (And.intro g3 (And.intro g4 (And.intro g5 g6))))
          clear g1 g2 g3 g4 g5 g6 hown9 hgrow9 hbv1 hrow1 cb2
          refine hK.out _ _ trivial (fun _ => ?_)
          clear hK K
          refine wpAnyH_ready (rs := [5]) (by kernel_rfl) (by simp) ?_
          refine AllReadyH.cons (o := Oper.mk none _ _ _ _ _) rfl (fun K hK => ?_) AllReadyH.nil
          go_simp
          refine hK.out _ _ trivial (fun _ => ?_)
          clear hK K
          refine wpAnyH_done (by kernel_rfl) ?_ _
          obtain ⟨g2, g3, g4, g5, g6⟩ := GG.out
          rw [HYL.out] at g2 g3 g4 g5 g6
          have hb1' := Boxed.kt (boxed_xt hb1 hxt) g6 (by decide)
          have hb2' := Boxed.kt (boxed_xt hb2 hxt) g6 (by decide)
          have hB' := (HBW.out.trans (b1.out.mono HBW.out.size)).trans g5
          refine ⟨((KeepsOthers.of_below b1.out).trans g4).from _, ?_, ⟨_, _, g2, mapM_snoc HR.out HM.out HF.out, g3⟩, hb1', hb2', hB'⟩
          intro j hj
          simp only [List.mem_cons, List.not_mem_nil, or_false] at hj
          rcases hj with rfl | rfl | rfl
          · have hgl := hv.2.2.2.1
            exact (g5.block _ hgl).trans (b1.out.block _ (Nat.lt_of_lt_of_le hgl HBW.out.size))
          · exact (show _ = _ from hb1').trans (show _ = _ from hb1).symm
          · exact (show _ = _ from hb2').trans (show _ = _ from hb2).symm
        · go_simp
          refine hK.out _ _ trivial (fun _ => ?_)
          clear hK K
          refine wpAnyH_ready (rs := [0]) (by kernel_rfl) (by simp) ?_
          refine AllReadyH.cons (o := Oper.mk (some 8) _ _ _ _ _) rfl (fun K hK => ?_) AllReadyH.nil
          go_simp
          refine hK.out _ _ trivial (fun _ => ?_)
          clear hK K
          refine wpAnyH_ready (rs := [4]) (by kernel_rfl) (by simp) ?_
          refine AllReadyH.cons (o := Oper.mk (some 12) _ _ _ _ _) rfl (fun K hK => ?_) AllReadyH.nil
          refine step_append_lies _ (by rfl) _ _ 172 (by rfl) w.heap.size 229 i0 (.agg #[.int .u8 0, .int .i64 0, .bool false, .slice none 0 0]) 4 48 Tryz.underlying172 hi hz0 hz1 hz2 rfl (by decide) v ys.length css.flatten (by rfl) (hrow1.alloc _) ⟨v1.heap.size, 0, none⟩ 1 1 [.int .u8 (y.op.toNat : Int), .int .i64 (y.div : Int), .bool y.neq, .slice sa sn sc] (by rfl) rfl (World.news_of_block (heap_alloc_new v1 _)) (by simp [Value.oneCell']) (by decide) (by omega) (by omega) (by simp; omega) _ rfl ?_
          intro g9 cap9 w9 hown9 hgrow9 _ _
          obtain ⟨g1, g2, g3, g4, g5, g6⟩ := Lst.grown (S := fun ty => ty ≠ 229 ∧ ty ≠ 172) (x := y) hbv1 (by decide) hsz1 (Nat.le_refl _) rfl (fun _ => Iff.rfl) (ElRel.kt ⟨by decide, by decide⟩) HEL.out css HCS.out.1 hrow1 (fun i x c hx hc => ⟨(HCS.out.2.2 i x c hx hc).1, ElRel.kt (S := fun _ => True) trivial _ _ (KT.of_xt hxt) _ _ (HCS.out.2.2 i x c hx hc).2⟩) hown9 hgrow9
          have cc9 := g1.cell
          have ff9 := g1.frozen
          have GG := hide (And.intro g2 (And.intro g3 (And.intro g4 (And.intro g5 g6))))
          clear g1 g2 g3 g4 g5 g6 hown9 hgrow9 hbv1 hrow1 cb2
          refine hK.out _ _ trivial (fun _ => ?_)
          clear hK K
          refine wpAnyH_ready (rs := [5]) (by kernel_rfl) (by simp) ?_
          refine AllReadyH.cons (o := Oper.mk none _ _ _ _ _) rfl (fun K hK => ?_) AllReadyH.nil
          go_simp
          refine hK.out _ _ trivial (fun _ => ?_)
          clear hK K
          refine wpAnyH_done (by kernel_rfl) ?_ _
          obtain ⟨g2, g3, g4, g5, g6⟩ := GG.out
          rw [HYL.out] at g2 g3 g4 g5 g6
          have hb1' := Boxed.kt (boxed_xt hb1 hxt) g6 (by decide)
          have hb2' := Boxed.kt (boxed_xt hb2 hxt) g6 (by decide)
          have hB' := (HBW.out.trans (b1.out.mono HBW.out.size)).trans g5
          refine ⟨((KeepsOthers.of_below b1.out).trans g4).from _, ?_, ⟨_, _, g2, mapM_snoc HR.out HM.out HF.out, g3⟩, hb1', hb2', hB'⟩
          intro j hj
          simp only [List.mem_cons, List.not_mem_nil, or_false] at hj
          rcases hj with rfl | rfl | rfl
          · have hgl := hv.2.2.2.1
            exact (g5.block _ hgl).trans (b1.out.block _ (Nat.lt_of_lt_of_le hgl HBW.out.size))
          · exact (show _ = _ from hb1').trans (show _ = _ from hb1).symm
          · exact (show _ = _ from hb2').trans (show _ = _ from hb2).symm
  case done =>
    rintro D W hst hD ⟨⟨v, ys, hbv, hm, hr⟩, _, _, hB⟩ hK
    have hc := hbv.cell
    refine WpAt.seq (WpAt.of_wp ?_)
    go_wp2
    refine WpAt.of_wp ?_
    go_wp2
    refine ⟨by simp, .inl ⟨_, _, rfl, run_takeDeferred hK, ?_⟩⟩
    have hrl : rows.length = xs.length := by rw [← HRW.out]; simp
    rw [← hrl, List.take_length] at hm
    refine ⟨_, results_tmp rfl _ _ _, Ans.ret hm (below_take hB (by omega) hK) ?_⟩
    exact hr.kt (S := fun _ => True) (KT.of_xt (Xt.putObj (B := 0) _ (Nat.zero_le _) hK rfl)) trivial (ElRel.kt (S := fun _ => True) trivial _ _ (KT.of_xt (Xt.putObj (B := 0) _ (Nat.zero_le _) hK rfl)))
  case pan =>
    rintro D W hD (⟨hn, hB⟩ | ⟨hst, _⟩) hK
    · exact leave_pan hK (Ans.panic hn (below_take hB (by omega) hK))
    · cases hst

theorem readAll_is (g off cap : Nat) (ts : List Tok) (v : Value) (w : World) (hv : TokV w g off cap ts v) (ht : Tks ts) (he : Evs w) (hl : ts.length ≤ 1024) :
    Calls Tryz.prog 201 #[v] w (Ans (allT ts) (fun ys v' W' => Lst w.heap.size 229 4 (ElRel w.heap.size) ys v' W') w) := readAll_any g off cap ts v w hv ht he hl

end Go.Proofs.YtkbciljfjijclaaGreatDoor

namespace Go.Proofs.YtkbciljfjijclaaGreatDoor
open Go.RowKit

attribute [local go_sem] Oper.semAt_some

set_option maxRecDepth 100000 in
set_option maxHeartbeats 4000000 in
theorem readCondition_any (g off cap : Nat) (ts : List Tok) (v : Value) (w : World) (hv : TokV w g off cap ts v) (ht : Tks ts) (he : Evs w) (hl : ts.length ≤ 1024) :
    Calls Tryz.prog 151 #[v] w (Ans ((splitT [111, 114] ts).mapM allT) (fun ys v' W' => Lst w.heap.size 172 1 (ElAll w.heap.size) ys v' W') w) := by
  obtain rfl : v = .slice (some ⟨g, off, none⟩) ts.length cap := hv.1
  have BT := hide (fun X => between_any (some ⟨g, off, none⟩) ts.length cap ⟨#[111, 114]⟩ X)
  obtain ⟨i0, hi, hz0, hz1, hz2⟩ := info_parts info_all
  obtain ⟨xs, hxs⟩ : ∃ xs, xs = cutsAt [111, 114] 0 0 ts := ⟨_, rfl⟩
  obtain ⟨rows, hrs⟩ : ∃ rows, rows = splitT [111, 114] ts := ⟨_, rfl⟩
  have hrows : xs.map (fun x => (ts.take x.2).drop x.1) = rows := by rw [hxs, hrs]; exact cutsAt_split _ _
  have hin : ∀ x, x ∈ xs → x.1 ≤ x.2 ∧ x.2 ≤ ts.length := fun x hx => by
    rw [hxs] at hx
    have := cutsAt_in [111, 114] ts 0 0 (Nat.le_refl _) x hx
    exact ⟨this.1, by simpa using this.2⟩
  have hxl : xs.length ≤ 1025 := by rw [hxs]; exact Nat.le_trans (cutsAt_len [111, 114] ts 0 0) (by omega)
  rw [← hrs]
  have HXS := hide hxs
  have HRW := hide hrows
  clear hrs hxs hrows
  refine calls_pan Tryz.func151 rfl ?_
  simp only [Tryz.ntmps151, List.size_toArray, List.length_cons, List.length_nil, Nat.reduceAdd, Nat.reduceSub, Array.replicate_succ, Array.replicate_zero, List.push_toArray, List.append_toArray, List.nil_append, List.cons_append]
  refine WpAt.seq (WpAt.of_wp ?_)
  go_wp2
  refine WpAt.seq (WpAt.of_wp ?_)
  go_wp2
  refine WpAt.seq (WpAt.seq (WpAt.of_wp ?_))
  go_wp2_with fail
  refine (BT.out _).mono ?_
  rintro e w1 ⟨rfl, rfl⟩
  go_wp2
  have hB0 : Below w.heap.size w (((w.alloc (.cells #[.slice none 0 0] 118)).alloc (.cells #[.slice (some ⟨g, off, none⟩) ts.length cap] 112)).alloc (.cells #[.string ⟨#[111, 114]⟩] 9)) := (((Below.refl _ w).alloc (Nat.le_refl _) _).alloc (by simp) _).alloc (by simp; omega) _
  have bO := ((Boxed.new w 118 (.slice none 0 0)).alloc (.cells #[.slice (some ⟨g, off, none⟩) ts.length cap] 112)).alloc (.cells #[.string ⟨#[111, 114]⟩] 9)
  have bx1 := (Boxed.new (w.alloc (.cells #[.slice none 0 0] 118)) 112 (.slice (some ⟨g, off, none⟩) ts.length cap)).alloc (.cells #[.string ⟨#[111, 114]⟩] 9)
  have bx2 := Boxed.new ((w.alloc (.cells #[.slice none 0 0] 118)).alloc (.cells #[.slice (some ⟨g, off, none⟩) ts.length cap] 112)) 9 (.string ⟨#[111, 114]⟩)
  simp only [World.size_alloc] at bx1 bx2
  obtain ⟨W0, hW0⟩ : ∃ W0, W0 = ((w.alloc (.cells #[.slice none 0 0] 118)).alloc (.cells #[.slice (some ⟨g, off, none⟩) ts.length cap] 112)).alloc (.cells #[.string ⟨#[111, 114]⟩] 9) := ⟨_, rfl⟩
  have hsz0 : W0.heap.size = w.heap.size + 3 := by rw [hW0]; simp
  rw [← hW0] at hB0 bO bx1 bx2 ⊢
  clear hW0
  have hseq := between1_pan (w.heap.size + 1) (w.heap.size + 1 + 1) g off cap ⟨#[111, 114]⟩ ts _ W0 (by omega) (by omega) bx1.cell bx2.cell (hv.below hB0)
  rw [show bys ⟨#[111, 114]⟩ = [111, 114] from rfl, ← HXS.out] at hseq
  refine WpAt.block (WpAt.range Tryz.func151 (gf := 149) (lb := #[.pointer (some ⟨w.heap.size + 1, 0, none⟩), .pointer (some ⟨w.heap.size + 1 + 1, 0, none⟩)]) rfl (enters_of Tryz.func149 (by kernel_rfl) rfl)
    hseq (fun h k => h.trans k) (fun {X Y} h => fun k hk => h.below.block k ?klt) (fun _ => rfl)
    (fun k W => (∃ v ys, Boxed W w.heap.size 118 v ∧ (rows.take k).mapM allT = some ys ∧ Lst w.heap.size 172 1 (ElAll w.heap.size) ys v W) ∧ Boxed W (w.heap.size + 1) 112 (.slice (some ⟨g, off, none⟩) ts.length cap) ∧ Boxed W (w.heap.size + 1 + 1) 9 (.string ⟨#[111, 114]⟩) ∧ Below w.heap.size w W) (fun W => rows.mapM allT = none ∧ Below w.heap.size w W)
    ?inv ?start (fun x => { tmps := #[.slice (some ⟨g, off, none⟩) ts.length cap, undef, .slice none 0 0, .pointer (some ⟨w.heap.size, 0, none⟩), .slice (some ⟨g, cutA off cap x.1, none⟩) (x.2 - x.1) (cap - x.1), .slice (some ⟨g, off, none⟩) ts.length cap, .func (.func 149) #[] #[.pointer (some ⟨w.heap.size + 1, 0, none⟩), .pointer (some ⟨w.heap.size + 1 + 1, 0, none⟩)], .slice (some ⟨g, cutA off cap x.1, none⟩) (x.2 - x.1) (cap - x.1), undef, undef, undef, undef, undef, undef], defers := [] }) ?assign ?body ?done ?pan) ?x1 ?x2
  case klt =>
    have := hv.2.2.2.1
    rw [hsz0]
    simp only [List.mem_cons, List.not_mem_nil, or_false] at hk
    omega
  case x1 => exact fun _ _ _ h => h
  case x2 => exact fun _ _ _ h => h
  case inv =>
    rintro k X Y ⟨⟨v, ys, hv, hm, hr⟩, hb1, hb2, hB⟩ hx
    exact ⟨⟨v, ys, boxed_xt hv hx, hm, hr.kt (S := fun _ => True) (KT.of_xt hx) trivial (ElAll.kt (S := fun _ => True) trivial trivial X Y (KT.of_xt hx))⟩, boxed_xt hb1 hx, boxed_xt hb2 hx, hB.trans (hx.below.mono (by omega))⟩
  case start => exact ⟨⟨_, [], bO, rfl, Lst.nil _ _ _ _ _⟩, bx1, bx2, hB0⟩
  case assign =>
    intro l x W K hK
    gi_wp2
    exact hK
  case body =>
    rintro l k x W hx ⟨⟨v, ys, hbv, hm, hlst⟩, hb1, hb2, hB⟩ hsz
    have hxm := hin x (List.mem_of_getElem? hx)
    have hrk : rows[k]? = some ((ts.take x.2).drop x.1) := by rw [← HRW.out, List.getElem?_map, hx]; rfl
    have TV := (hv.below hB).cut x.1 x.2 hxm.1 hxm.2
    have TK := ht.cut x.1 x.2
    have EV := he.below hB
    have TL : ((ts.take x.2).drop x.1).length ≤ 1024 := by simp; omega
    have hyl : ys.length = k := by
      have := mapM_len hm
      have hk : k < xs.length := by
        rcases Nat.lt_or_ge k xs.length with q | q
        · exact q
        · rw [List.getElem?_eq_none q] at hx; cases hx
      have h2 : rows.length = xs.length := by rw [← HRW.out]; simp
      rw [this, List.length_take]; omega
    have hk1 : k < 1025 := by
      rcases Nat.lt_or_ge k xs.length with q | q
      · omega
      · rw [List.getElem?_eq_none q] at hx; cases hx
    have hml : 1026 ≤ maxLen := by decide
    obtain ⟨R, hR⟩ : ∃ R, R = (ts.take x.2).drop x.1 := ⟨_, rfl⟩
    rw [← hR] at hrk TV TK TL
    obtain ⟨qa, hqa⟩ : ∃ qa, qa = cutA off cap x.1 := ⟨_, rfl⟩
    obtain ⟨qn, hqn⟩ : ∃ qn, qn = x.2 - x.1 := ⟨_, rfl⟩
    obtain ⟨qc, hqc⟩ : ∃ qc, qc = cap - x.1 := ⟨_, rfl⟩
    rw [← hqa, ← hqn, ← hqc] at TV
    simp only [← hqa, ← hqn, ← hqc]
    have HM := hide hm
    have HR := hide hrk
    have HYL := hide hyl
    have c0 := hbv.cell
    have b0 : Hid (Below W.heap.size W W.drew) := bdrewD W
    have HBW := hide hB
    clear hxm hR hqa hqn hqc hm hrk hyl
    cases hf : allT R with
    | none =>
      have C0 : Hid (∀ X, Hid (Below W.heap.size W X) → Calls Tryz.prog 201 #[.slice (some ⟨g, qa, none⟩) qn qc] X fun e w' => e = .panicked PC ∧ Hid (Below W.heap.size W w')) := by
        intro X bX
        have h := readAll_is g qa qc R _ X (TV.below bX.out) TK (EV.below bX.out) TL
        rw [hf] at h
        refine h.mono ?_
        rintro e w' ⟨hb, rfl⟩
        exact ⟨rfl, bX.out.trans (hb.mono bX.out.size)⟩
      have HF := hide hf
      clear hf TV TK EV TL hB
      gi_wp2
      refine region_round (S := fun _ => True) (by kernel_rfl) (by kernel_rfl) (fun ⟨_, _, h⟩ => h) trivial (fun _ => ?_)
      refine wpAnyH_take (i := 1) (oi := Oper.mk (some 9) _ _ _ _ _) (v := .slice (some ⟨g, qa, none⟩) qn qc) rfl (by kernel_rfl) (by kernel_rfl) (by kernel_rfl) (fun _ _ _ h => h) (Or.inl ⟨by rfl, ?_⟩) trivial ?_
      · intro wX _
        go_simp
      simp only [Act.put, List.setIfInBounds_toArray, List.set_cons_succ, List.set_cons_zero]
      refine wpAnyH_ready (rs := [0, 2]) (by kernel_rfl) (by simp) ?_
      refine AllReadyH.cons (o := Oper.mk (some 8) _ _ _ _ _) rfl (fun K hK => ?_) (AllReadyH.cons (o := Oper.mk (some 10) _ _ _ _ _) rfl (fun K hK => ?_) AllReadyH.nil)
      · go_simp
        refine hK.out _ _ trivial (fun _ => ?_)
        clear hK K
        refine wpAnyH_ready (rs := [2]) (by kernel_rfl) (by simp) ?_
        refine AllReadyH.cons (o := Oper.mk (some 10) _ _ _ _ _) rfl (fun K hK => ?_) AllReadyH.nil
        go_simp
        refine (C0.out _ b0).mono ?_
        rintro e v1 ⟨rfl, b1⟩
        exact ⟨rfl, rfl, (KeepsOthers.of_below b1.out).from _, mapM_bad HR.out HF.out, HBW.out.trans (b1.out.mono HBW.out.size)⟩
      · go_simp
        refine (C0.out _ b0).mono ?_
        rintro e v1 ⟨rfl, b1⟩
        exact ⟨rfl, rfl, (KeepsOthers.of_below b1.out).from _, mapM_bad HR.out HF.out, HBW.out.trans (b1.out.mono HBW.out.size)⟩
    | some y =>
      have C0 : Hid (∀ X, Hid (Below W.heap.size W X) → Calls Tryz.prog 201 #[.slice (some ⟨g, qa, none⟩) qn qc] X fun e w' => (∃ sa sn sc, e = .returned (.slice sa sn sc) ∧ Hid ((ElAll w.heap.size) y [.slice sa sn sc] w')) ∧ Hid (Below W.heap.size W w') ∧ w'.cell? ⟨w.heap.size, 0, none⟩ = some v) := by
        intro X bX
        have h := readAll_is g qa qc R _ X (TV.below bX.out) TK (EV.below bX.out) TL
        rw [hf] at h
        refine h.mono ?_
        rintro e w' ⟨hb, v', rfl, hv'⟩
        have bb := bX.out.trans (hb.mono bX.out.size)
        have hxs : w.heap.size ≤ X.heap.size := Nat.le_trans HBW.out.size bX.out.size
        have cc : w'.cell? ⟨w.heap.size, 0, none⟩ = some v := (boxed_xt hbv (Xt.of_below bb (Nat.le_refl _))).cell
        obtain ⟨sa, sn, sc, rfl⟩ := Lst.slice hv'
        exact ⟨⟨sa, sn, sc, rfl, ⟨_, rfl, Lst.low hv' hxs (ElRel.low hxs)⟩⟩, bb, cc⟩
      have HF := hide hf
      obtain ⟨css, hcs1, hcs2, hcs3⟩ := hlst
      have HCS := hide (And.intro hcs1 (And.intro hcs2 hcs3))
      clear hf TV TK EV TL hB hcs1 hcs2 hcs3
      gi_wp2
      refine region_round (S := fun _ => True) (by kernel_rfl) (by kernel_rfl) (fun ⟨_, _, h⟩ => h) trivial (fun _ => ?_)
      refine wpAnyH_take (i := 1) (oi := Oper.mk (some 9) _ _ _ _ _) (v := .slice (some ⟨g, qa, none⟩) qn qc) rfl (by kernel_rfl) (by kernel_rfl) (by kernel_rfl) (fun _ _ _ h => h) (Or.inl ⟨by rfl, ?_⟩) trivial ?_
      · intro wX _
        go_simp
      simp only [Act.put, List.setIfInBounds_toArray, List.set_cons_succ, List.set_cons_zero]
      refine wpAnyH_ready (rs := [0, 2]) (by kernel_rfl) (by simp) ?_
      refine AllReadyH.cons (o := Oper.mk (some 8) _ _ _ _ _) rfl (fun K hK => ?_) (AllReadyH.cons (o := Oper.mk (some 10) _ _ _ _ _) rfl (fun K hK => ?_) AllReadyH.nil)
      · go_simp
        refine hK.out _ _ trivial (fun _ => ?_)
        clear hK K
        refine wpAnyH_ready (rs := [2]) (by kernel_rfl) (by simp) ?_
        refine AllReadyH.cons (o := Oper.mk (some 10) _ _ _ _ _) rfl (fun K hK => ?_) AllReadyH.nil
        go_simp
        refine (C0.out _ b0).mono ?_
        rintro e v1 ⟨⟨sa, sn, sc, rfl, HEL⟩, b1, cb1⟩
        refine hK.out _ _ trivial (fun _ => ?_)
        clear hK K
        have hxt : Xt W.heap.size W v1 := Xt.of_below b1.out (Nat.le_refl _)
        have hbv1 := boxed_xt hbv hxt
        have hrow1 := ownsRow_xt HCS.out.2.1 hxt
        have hsz1 : w.heap.size ≤ v1.heap.size := Nat.le_trans HBW.out.size b1.out.size
        have hyk := HYL.out
        have cb2 := (hbv1.alloc (.cells #[.slice sa sn sc] 172)).cell
        refine wpAnyH_ready (rs := [3]) (by kernel_rfl) (by simp) ?_
        refine AllReadyH.cons (o := Oper.mk (some 11) _ _ _ _ _) rfl (fun K hK => ?_) AllReadyH.nil
        go_simp
        refine hK.out _ _ trivial (fun _ => ?_)
        clear hK K
        refine wpAnyH_ready (rs := [4]) (by kernel_rfl) (by simp) ?_
        refine AllReadyH.cons (o := Oper.mk (some 12) _ _ _ _ _) rfl (fun K hK => ?_) AllReadyH.nil
        refine step_append_lies _ (by rfl) _ _ 118 (by rfl) w.heap.size 172 i0 (.slice none 0 0) 1 24 Tryz.underlying118 hi hz0 hz1 hz2 rfl (by decide) v ys.length css.flatten (by rfl) (hrow1.alloc _) ⟨v1.heap.size, 0, none⟩ 1 1 [.slice sa sn sc] (by rfl) rfl (World.news_of_block (heap_alloc_new v1 _)) (by simp [Value.oneCell']) (by decide) (by omega) (by omega) (by simp; omega) _ rfl ?_
        intro g9 cap9 w9 hown9 hgrow9 _ _
        obtain ⟨g1, g2, g3, g4, g5, g6⟩ := Lst.grown (S := fun ty => ty ≠ 172 ∧ ty ≠ 118) (x := y) hbv1 (by decide) hsz1 (Nat.le_refl _) rfl (fun _ => Iff.rfl) (ElAll.kt ⟨by decide, by decide⟩ ⟨by decide, by decide⟩) HEL.out css HCS.out.1 hrow1 (fun i x c hx hc => ⟨(HCS.out.2.2 i x c hx hc).1, ElAll.kt (S := fun _ => True) trivial trivial _ _ (KT.of_xt hxt) _ _ (HCS.out.2.2 i x c hx hc).2⟩) hown9 hgrow9
        have cc9 := g1.cell
        have ff9 := g1.frozen
        have GG := hide (And.intro g2 (And.intro g3 (And.intro g4 (And.intro g5 g6))))
        clear g1 g2 g3 g4 g5 g6 hown9 hgrow9 hbv1 hrow1 cb2
        refine hK.out _ _ trivial (fun _ => ?_)
        clear hK K
        refine wpAnyH_ready (rs := [5]) (by kernel_rfl) (by simp) ?_
        refine AllReadyH.cons (o := Oper.mk none _ _ _ _ _) rfl (fun K hK => ?_) AllReadyH.nil
        go_simp
        refine hK.out _ _ trivial (fun _ => ?_)
        clear hK K
        refine wpAnyH_done (by kernel_rfl) ?_ _
        obtain ⟨g2, g3, g4, g5, g6⟩ := GG.out
        rw [HYL.out] at g2 g3 g4 g5 g6
        have hb1' := Boxed.kt (boxed_xt hb1 hxt) g6 (by decide)
        have hb2' := Boxed.kt (boxed_xt hb2 hxt) g6 (by decide)
        have hB' := (HBW.out.trans (b1.out.mono HBW.out.size)).trans g5
        refine ⟨((KeepsOthers.of_below b1.out).trans g4).from _, ?_, ⟨_, _, g2, mapM_snoc HR.out HM.out HF.out, g3⟩, hb1', hb2', hB'⟩
        intro j hj
        simp only [List.mem_cons, List.not_mem_nil, or_false] at hj
        rcases hj with rfl | rfl | rfl
        · have hgl := hv.2.2.2.1
          exact (g5.block _ hgl).trans (b1.out.block _ (Nat.lt_of_lt_of_le hgl HBW.out.size))
        · exact (show _ = _ from hb1').trans (show _ = _ from hb1).symm
        · exact (show _ = _ from hb2').trans (show _ = _ from hb2).symm
      · go_simp
        refine (C0.out _ b0).mono ?_
        rintro e v1 ⟨⟨sa, sn, sc, rfl, HEL⟩, b1, cb1⟩
        refine hK.out _ _ trivial (fun _ => ?_)
        clear hK K
        have hxt : Xt W.heap.size W v1 := Xt.of_below b1.out (Nat.le_refl _)
        have hbv1 := boxed_xt hbv hxt
        have hrow1 := ownsRow_xt HCS.out.2.1 hxt
        have hsz1 : w.heap.size ≤ v1.heap.size := Nat.le_trans HBW.out.size b1.out.size
        have hyk := HYL.out
        have cb2 := (hbv1.alloc (.cells #[.slice sa sn sc] 172)).cell
        refine wpAnyH_ready (rs := [0, 3]) (by kernel_rfl) (by simp) ?_
        refine AllReadyH.cons (o := Oper.mk (some 8) _ _ _ _ _) rfl (fun K hK => ?_) (AllReadyH.cons (o := Oper.mk (some 11) _ _ _ _ _) rfl (fun K hK => ?_) AllReadyH.nil)
        · go_simp
          refine hK.out _ _ trivial (fun _ => ?_)
          clear hK K
          refine wpAnyH_ready (rs := [3]) (by kernel_rfl) (by simp) ?_
          refine AllReadyH.cons (o := Oper.mk (some 11) _ _ _ _ _) rfl (fun K hK => ?_) AllReadyH.nil
          go_simp
          refine hK.out _ _ trivial (fun _ => ?_)
          clear hK K
          refine wpAnyH_ready (rs := [4]) (by kernel_rfl) (by simp) ?_
          refine AllReadyH.cons (o := Oper.mk (some 12) _ _ _ _ _) rfl (fun K hK => ?_) AllReadyH.nil
          refine step_append_lies _ (by rfl) _ _ 118 (by rfl) w.heap.size 172 i0 (.slice none 0 0) 1 24 Tryz.underlying118 hi hz0 hz1 hz2 rfl (by decide) v ys.length css.flatten (by rfl) (hrow1.alloc _) ⟨v1.heap.size, 0, none⟩ 1 1 [.slice sa sn sc] (by rfl) rfl (World.news_of_block (heap_alloc_new v1 _)) (by simp [Value.oneCell']) (by decide) (by omega) (by omega) (by simp; omega) _ rfl ?_
          intro g9 cap9 w9 hown9 hgrow9 _ _
          obtain ⟨g1, g2, g3, g4, g5, g6⟩ := Lst.grown (S := fun ty => ty ≠ 172 ∧ ty ≠ 118) (x := y) hbv1 (by decide) hsz1 (Nat.le_refl _) rfl (fun _ => Iff.rfl) (ElAll.kt ⟨by decide, by decide⟩ ⟨by decide, by decide⟩) HEL.out css HCS.out.1 hrow1 (fun i x c hx hc => ⟨(HCS.out.2.2 i x c hx hc).1, ElAll.kt (S := fun _ => True) trivial trivial _ _ (KT.of_xt hxt) _ _ (HCS.out.2.2 i x c hx hc).2⟩) hown9 hgrow9
          have cc9 := g1.cell
          have ff9 := g1.frozen
          have GG := hide (And.intro g2 (And.intro g3 (And.intro g4 (And.intro g5 g6))))
          clear g1 g2 g3 g4 g5 g6 hown9 hgrow9 hbv1 hrow1 cb2
          refine hK.out _ _ trivial (fun _ => ?_)
          clear hK K
          refine wpAnyH_ready (rs := [5]) (by kernel_rfl) (by simp) ?_
          refine AllReadyH.cons (o := Oper.mk none _ _ _ _ _) rfl (fun K hK => ?_) AllReadyH.nil
          go_simp
          refine hK.out _ _ trivial (fun _ => ?_)
          clear hK K
          refine wpAnyH_done (by kernel_rfl) ?_ _
          obtain ⟨g2, g3, g4, g5, g6⟩ := GG.out
          rw [HYL.out] at g2 g3 g4 g5 g6
          have hb1' := Boxed.kt (boxed_xt hb1 hxt) g6 (by decide)
          have hb2' := Boxed.kt (boxed_xt hb2 hxt) g6 (by decide)
          have hB' := (HBW.out.trans (b1.out.mono HBW.out.size)).trans g5
          refine ⟨((KeepsOthers.of_below b1.out).trans g4).from _, ?_, ⟨_, _, g2, mapM_snoc HR.out HM.out HF.out, g3⟩, hb1', hb2', hB'⟩
          intro j hj
          simp only [List.mem_cons, List.not_mem_nil, or_false] at hj
          rcases hj with rfl | rfl | rfl
          · have hgl := hv.2.2.2.1
            exact (g5.block _ hgl).trans (b1.out.block _ (Nat.lt_of_lt_of_le hgl HBW.out.size))
          · exact (show _ = _ from hb1').trans (show _ = _ from hb1).symm
          · exact (show _ = _ from hb2').trans (show _ = _ from hb2).symm
        · go_simp
          refine hK.out _ _ trivial (fun _ => ?_)
          clear hK K
          refine wpAnyH_ready (rs := [0]) (by kernel_rfl) (by simp) ?_
          refine AllReadyH.cons (o := Oper.mk (some 8) _ _ _ _ _) rfl (fun K hK => ?_) AllReadyH.nil
          go_simp
          refine hK.out _ _ trivial (fun _ => ?_)
          clear hK K
          refine wpAnyH_ready (rs := [4]) (by kernel_rfl) (by simp) ?_
          refine AllReadyH.cons (o := Oper.mk (some 12) _ _ _ _ _) rfl (fun K hK => ?_) AllReadyH.nil
          refine step_append_lies _ (by rfl) _ _ 118 (by rfl) w.heap.size 172 i0 (.slice none 0 0) 1 24 Tryz.underlying118 hi hz0 hz1 hz2 rfl (by decide) v ys.length css.flatten (by rfl) (hrow1.alloc _) ⟨v1.heap.size, 0, none⟩ 1 1 [.slice sa sn sc] (by rfl) rfl (World.news_of_block (heap_alloc_new v1 _)) (by simp [Value.oneCell']) (by decide) (by omega) (by omega) (by simp; omega) _ rfl ?_
          intro g9 cap9 w9 hown9 hgrow9 _ _
          obtain ⟨g1, g2, g3, g4, g5, g6⟩ := Lst.grown (S := fun ty => ty ≠ 172 ∧ ty ≠ 118) (x := y) hbv1 (by decide) hsz1 (Nat.le_refl _) rfl (fun _ => Iff.rfl) (ElAll.kt ⟨by decide, by decide⟩ ⟨by decide, by decide⟩) HEL.out css HCS.out.1 hrow1 (fun i x c hx hc => ⟨(HCS.out.2.2 i x c hx hc).1, ElAll.kt (S := fun _ => True) trivial trivial _ _ (KT.of_xt hxt) _ _ (HCS.out.2.2 i x c hx hc).2⟩) hown9 hgrow9
          have cc9 := g1.cell
          have ff9 := g1.frozen
          have GG := hide (And.intro g2 (And.intro g3 (And.intro g4 (And.intro g5 g6))))
          clear g1 g2 g3 g4 g5 g6 hown9 hgrow9 hbv1 hrow1 cb2
          refine hK.out _ _ trivial (fun _ => ?_)
          clear hK K
          refine wpAnyH_ready (rs := [5]) (by kernel_rfl) (by simp) ?_
          refine AllReadyH.cons (o := Oper.mk none _ _ _ _ _) rfl (fun K hK => ?_) AllReadyH.nil
          go_simp
          refine hK.out _ _ trivial (fun _ => ?_)
          clear hK K
          refine wpAnyH_done (by kernel_rfl) ?_ _
          obtain ⟨g2, g3, g4, g5, g6⟩ := GG.out
          rw [HYL.out] at g2 g3 g4 g5 g6
          have hb1' := Boxed.kt (boxed_xt hb1 hxt) g6 (by decide)
          have hb2' := Boxed.kt (boxed_xt hb2 hxt) g6 (by decide)
          have hB' := (HBW.out.trans (b1.out.mono HBW.out.size)).trans g5
          refine ⟨((KeepsOthers.of_below b1.out).trans g4).from _, ?_, ⟨_, _, g2, mapM_snoc HR.out HM.out HF.out, g3⟩, hb1', hb2', hB'⟩
          intro j hj
          simp only [List.mem_cons, List.not_mem_nil, or_false] at hj
          rcases hj with rfl | rfl | rfl
          · have hgl := hv.2.2.2.1
            exact (g5.block _ hgl).trans (b1.out.block _ (Nat.lt_of_lt_of_le hgl HBW.out.size))
          · exact (show _ = _ from hb1').trans (show _ = _ from hb1).symm
          · exact (show _ = _ from hb2').trans (show _ = _ from hb2).symm
  case done =>
    rintro D W hst hD ⟨⟨v, ys, hbv, hm, hr⟩, _, _, hB⟩ hK
    have hc := hbv.cell
    refine WpAt.seq (WpAt.of_wp ?_)
    go_wp2
    refine WpAt.of_wp ?_
    go_wp2
    refine ⟨by simp, .inl ⟨_, _, rfl, run_takeDeferred hK, ?_⟩⟩
    have hrl : rows.length = xs.length := by rw [← HRW.out]; simp
    rw [← hrl, List.take_length] at hm
    refine ⟨_, results_tmp rfl _ _ _, Ans.ret hm (below_take hB (by omega) hK) ?_⟩
    exact hr.kt (S := fun _ => True) (KT.of_xt (Xt.putObj (B := 0) _ (Nat.zero_le _) hK rfl)) trivial (ElAll.kt (S := fun _ => True) trivial trivial _ _ (KT.of_xt (Xt.putObj (B := 0) _ (Nat.zero_le _) hK rfl)))
  case pan =>
    rintro D W hD (⟨hn, hB⟩ | ⟨hst, _⟩) hK
    · exact leave_pan hK (Ans.panic hn (below_take hB (by omega) hK))
    · cases hst

theorem readCondition_is (g off cap : Nat) (ts : List Tok) (v : Value) (w : World) (hv : TokV w g off cap ts v) (ht : Tks ts) (he : Evs w) (hl : ts.length ≤ 1024) :
    Calls Tryz.prog 151 #[v] w (Ans (condT ts) (fun ys v' W' => Lst w.heap.size 172 1 (ElAll w.heap.size) ys v' W') w) := readCondition_any g off cap ts v w hv ht he hl

end Go.Proofs.YtkbciljfjijclaaGreatDoor

namespace Go.Proofs.YtkbciljfjijclaaGreatDoor
open Go.RowKit

def IsRule (base : Nat) (y : Nat × List (List RelT)) (v : Value) (W : World) : Prop := ∃ a n c, v = .agg #[.int .i64 (y.1 : Int), .slice a n c] ∧ Lst base 172 1 (ElAll base) y.2 (.slice a n c) W

theorem kt_put2 {W : World} {b : Nat} {cs : Array Value} {t : TypeId} (h : Blk W b cs t) (y0 y1 : Value) : KT (fun ty => ty ≠ t) W ((W.setCell ⟨b, 0, none⟩ y0).setCell ⟨b, 1, none⟩ y1) := by
  refine ⟨by simp [World.setCell], fun k c ty fz hk hs => ?_⟩
  have hne : k ≠ b := by
    rintro rfl
    rw [show W.heap[k]? = _ from h] at hk
    cases hk; exact hs rfl
  rw [Below.heap_setCell _ _ _ _ hne, Below.heap_setCell _ _ _ _ hne]
  exact hk

theorem rul_short (a : Option Addr) (n cap : Nat) (w : World) (h : n < 2) : Calls Tryz.prog 99 #[.slice a n cap] w (Ans (none : Option (Nat × List (List RelT))) (IsRule w.heap.size) w) := by
  have HB : Hid (Below w.heap.size w (w.alloc (.cells #[.int .i64 0, .slice none 0 0] 120))) := (Below.refl w.heap.size w).alloc (Nat.le_refl _) _
  have h' : (n : Int) < 2 := by omega
  go_enter Tryz.func99, Tryz.ntmps99
  go_wp2
  exact ⟨rfl, Ans.panic rfl HB.out⟩

set_option maxHeartbeats 1000000 in
theorem rul_colon (g off n cap : Nat) (r : List Tok) (c d : Tok) (hd : d ≠ [58]) (w : World) (hn : n = r.length + 2) (hv : TokV w g off cap (c :: d :: r) (.slice (some ⟨g, off, none⟩) n cap)) :
    Calls Tryz.prog 99 #[.slice (some ⟨g, off, none⟩) n cap] w (Ans (none : Option (Nat × List (List RelT))) (IsRule w.heap.size) w) := by
  have BR := hide (Blk.newAt w w.heap.size rfl #[.int .i64 0, .slice none 0 0] 120)
  have HB : Hid (Below w.heap.size w (w.alloc (.cells #[.int .i64 0, .slice none 0 0] 120))) := (Below.refl w.heap.size w).alloc (Nat.le_refl _) _
  have HT := hide (hv.below HB.out)
  have hcap : n ≤ cap := by have := hv.2.1; simp at this; omega
  have hcm : cap ≤ 9223372036854775807 := hv.2.2.1
  have r0 := HT.out.cell 0 _ rfl
  have r1 := HT.out.cell 1 _ rfl
  rw [Nat.add_zero] at r0
  have hn2 : ¬ (n : Int) < 2 := by omega
  have hn1 : (1 : Int) < (n : Int) := by omega
  have hn0 : (0 : Int) < (n : Int) := by omega
  have hq := ne_lit hd
  clear hd hv hn HT r0 BR
  go_enter Tryz.func99, Tryz.ntmps99
  go_wp2
  exact ⟨rfl, Ans.panic rfl HB.out⟩

set_option maxHeartbeats 1000000 in
theorem rul_cat (g off n cap : Nat) (r : List Tok) (c : Tok) (hc : catT c = none) (w : World) (hn : n = r.length + 2) (hv : TokV w g off cap (c :: [58] :: r) (.slice (some ⟨g, off, none⟩) n cap)) :
    Calls Tryz.prog 99 #[.slice (some ⟨g, off, none⟩) n cap] w (Ans (none : Option (Nat × List (List RelT))) (IsRule w.heap.size) w) := by
  have BR := hide (Blk.newAt w w.heap.size rfl #[.int .i64 0, .slice none 0 0] 120)
  have HB : Hid (Below w.heap.size w (w.alloc (.cells #[.int .i64 0, .slice none 0 0] 120))) := (Below.refl w.heap.size w).alloc (Nat.le_refl _) _
  have HT := hide (hv.below HB.out)
  have hcap : n ≤ cap := by have := hv.2.1; simp at this; omega
  have hcm : cap ≤ 9223372036854775807 := hv.2.2.1
  have r0 := HT.out.cell 0 _ rfl
  have r1 := HT.out.cell 1 _ rfl
  rw [Nat.add_zero] at r0
  have hn2 : ¬ (n : Int) < 2 := by omega
  have hn1 : (1 : Int) < (n : Int) := by omega
  have hn0 : (0 : Int) < (n : Int) := by omega
  rw [show mkB [58] = ⟨#[58]⟩ from rfl] at r1
  have RC := hide (readCategory_any c (w.alloc (.cells #[.int .i64 0, .slice none 0 0] 120)))
  rw [hc] at RC
  clear hc hv hn HT BR
  go_enter Tryz.func99, Tryz.ntmps99
  go_wp2_with fail
  refine RC.out.mono ?_
  rintro e w1 ⟨hb, rfl⟩
  have HB1 := hide (HB.out.trans (hb.mono HB.out.size))
  clear hb RC
  go_wp2
  exact ⟨rfl, Ans.panic rfl HB1.out⟩

set_option maxHeartbeats 1000000 in
theorem rul_oth (g off n cap : Nat) (r : List Tok) (c : Tok) (hc : catT c = some 5) (w : World) (hn : n = r.length + 2) (hv : TokV w g off cap (c :: [58] :: r) (.slice (some ⟨g, off, none⟩) n cap)) :
    Calls Tryz.prog 99 #[.slice (some ⟨g, off, none⟩) n cap] w (Ans (none : Option (Nat × List (List RelT))) (IsRule w.heap.size) w) := by
  have BR := hide (Blk.newAt w w.heap.size rfl #[.int .i64 0, .slice none 0 0] 120)
  have HB : Hid (Below w.heap.size w (w.alloc (.cells #[.int .i64 0, .slice none 0 0] 120))) := (Below.refl w.heap.size w).alloc (Nat.le_refl _) _
  have HT := hide (hv.below HB.out)
  have hcap : n ≤ cap := by have := hv.2.1; simp at this; omega
  have hcm : cap ≤ 9223372036854775807 := hv.2.2.1
  have r0 := HT.out.cell 0 _ rfl
  have r1 := HT.out.cell 1 _ rfl
  rw [Nat.add_zero] at r0
  have hn2 : ¬ (n : Int) < 2 := by omega
  have hn1 : (1 : Int) < (n : Int) := by omega
  have hn0 : (0 : Int) < (n : Int) := by omega
  rw [show mkB [58] = ⟨#[58]⟩ from rfl] at r1
  have RC := hide (readCategory_any c (w.alloc (.cells #[.int .i64 0, .slice none 0 0] 120)))
  rw [hc] at RC
  clear hc hv hn HT BR
  go_enter Tryz.func99, Tryz.ntmps99
  go_wp2_with fail
  refine RC.out.mono ?_
  rintro e w1 ⟨hb, v, rfl, rfl⟩
  have HB1 := hide (HB.out.trans (hb.mono HB.out.size))
  clear hb RC
  go_wp2
  exact ⟨rfl, Ans.panic rfl HB1.out⟩

set_option maxHeartbeats 1000000 in
theorem rul_ye (g off n cap : Nat) (r : List Tok) (w : World) (c : Tok) (k : Nat) (a : List (List RelT)) (hc : catT c = some k) (hk : k ≠ 5) (ha : condT r = some a) (ht : Tks r) (hl : r.length ≤ 1024) (he : Evs w) (hcp : 2 = cap) (hn : n = r.length + 2) (hv : TokV w g off cap (c :: [58] :: r) (.slice (some ⟨g, off, none⟩) n cap)) :
    Calls Tryz.prog 99 #[.slice (some ⟨g, off, none⟩) n cap] w (Ans (some (k, a)) (IsRule w.heap.size) w) := by
  have BR := hide (Blk.newAt w w.heap.size rfl #[.int .i64 0, .slice none 0 0] 120)
  have HB : Hid (Below w.heap.size w (w.alloc (.cells #[.int .i64 0, .slice none 0 0] 120))) := (Below.refl w.heap.size w).alloc (Nat.le_refl _) _
  have HT := hide (hv.below HB.out)
  have hcap : n ≤ cap := by have := hv.2.1; simp at this; omega
  have hcm : cap ≤ 9223372036854775807 := hv.2.2.1
  have r0 := HT.out.cell 0 _ rfl
  have r1 := HT.out.cell 1 _ rfl
  rw [Nat.add_zero] at r0
  have hn2 : ¬ (n : Int) < 2 := by omega
  have hn1 : (1 : Int) < (n : Int) := by omega
  have hn0 : (0 : Int) < (n : Int) := by omega
  rw [show mkB [58] = ⟨#[58]⟩ from rfl] at r1
  have RC := hide (readCategory_any c (w.alloc (.cells #[.int .i64 0, .slice none 0 0] 120)))
  rw [hc] at RC
  have TB := HT.out.cut 2 n (by omega) (by simp; omega)
  rw [show ((c :: [58] :: r).take n).drop 2 = r from by rw [List.take_of_length_le (by simp; omega)]; rfl] at TB
  have HE := hide (he.below HB.out)
  have hz2 : n - 2 = 0 := by omega
  rw [show cutA off cap 2 = off from if_pos hcp, hz2, show cap - 2 = 0 by omega] at TB
  have hn' : n = 2 := by omega
  have hcap' : cap = 2 := by omega
  have CC : Hid (∀ X, Hid (Below (w.alloc (.cells #[.int .i64 0, .slice none 0 0] 120)).heap.size (w.alloc (.cells #[.int .i64 0, .slice none 0 0] 120)) X) → Calls Tryz.prog 151 #[.slice (some ⟨g, off, none⟩) 0 0] X fun e w' => (∃ sa sn sc, e = .returned (.slice sa sn sc) ∧ Hid (Lst w.heap.size 172 1 (ElAll w.heap.size) a (.slice sa sn sc) w')) ∧ Hid (Below (w.alloc (.cells #[.int .i64 0, .slice none 0 0] 120)).heap.size (w.alloc (.cells #[.int .i64 0, .slice none 0 0] 120)) w')) := by
    intro X bX
    have h := readCondition_is g _ _ _ _ X (TB.below bX.out) ht (HE.out.below bX.out) hl
    rw [ha] at h
    refine h.mono ?_
    rintro e w' ⟨hb, v', rfl, hv'⟩
    obtain ⟨sa, sn, sc, rfl⟩ := Lst.slice hv'
    have hxs : w.heap.size ≤ X.heap.size := Nat.le_trans HB.out.size bX.out.size
    exact ⟨⟨sa, sn, sc, rfl, Lst.low hv' hxs (ElAll.low hxs)⟩, bX.out.trans (hb.mono bX.out.size)⟩
  have hk5 : ((k : Int) == 5) = false := beq_eq_false_iff_ne.2 (by omega)
  clear hc hk ha ht hl he hv hn HT TB HE hz2
  clear hcp hn0 hn1 hn2 hcap
  subst hn'
  subst hcap'
  go_enter Tryz.func99, Tryz.ntmps99
  go_wp2_with fail
  refine RC.out.mono ?_
  rintro e w1 ⟨hb, v, rfl, rfl⟩
  have b1 := hide hb
  clear hb RC
  go_wp2_with fail
  refine (CC.out _ b1).mono ?_
  rintro e w2 ⟨⟨sa, sn, sc, rfl, HSV⟩, b2⟩
  have BR1 := Blk.on BR b2.out
  have HB1 := hide (HB.out.trans (b2.out.mono HB.out.size))
  clear b1 b2 CC BR HB
  obtain ⟨f0, f1⟩ : w2.frozen? ⟨w.heap.size, 0, none⟩ = false ∧ w2.frozen? ⟨w.heap.size, 1, none⟩ = false := ⟨BR1.out.free 0, BR1.out.free 1⟩
  obtain ⟨c0, c1⟩ := BR1.out.two
  go_wp2
  refine bodyPost_ret (results_rule rfl _ _ _ _ _ rfl (BR1.out.put2 _ _)) rfl ?_
  refine Ans.ret rfl (below_put2 HB1.out (Nat.le_refl _) _ _) ⟨sa, sn, sc, rfl, ?_⟩
  exact HSV.out.kt (kt_put2 BR1.out _ _) (by decide) (ElAll.kt (by decide) (by decide) _ _ (kt_put2 BR1.out _ _))

set_option maxHeartbeats 1000000 in
theorem rul_yn (g off n cap : Nat) (r : List Tok) (w : World) (c : Tok) (k : Nat) (a : List (List RelT)) (hc : catT c = some k) (hk : k ≠ 5) (ha : condT r = some a) (ht : Tks r) (hl : r.length ≤ 1024) (he : Evs w) (hcp : 2 ≠ cap) (hn : n = r.length + 2) (hv : TokV w g off cap (c :: [58] :: r) (.slice (some ⟨g, off, none⟩) n cap)) :
    Calls Tryz.prog 99 #[.slice (some ⟨g, off, none⟩) n cap] w (Ans (some (k, a)) (IsRule w.heap.size) w) := by
  have BR := hide (Blk.newAt w w.heap.size rfl #[.int .i64 0, .slice none 0 0] 120)
  have HB : Hid (Below w.heap.size w (w.alloc (.cells #[.int .i64 0, .slice none 0 0] 120))) := (Below.refl w.heap.size w).alloc (Nat.le_refl _) _
  have HT := hide (hv.below HB.out)
  have hcap : n ≤ cap := by have := hv.2.1; simp at this; omega
  have hcm : cap ≤ 9223372036854775807 := hv.2.2.1
  have r0 := HT.out.cell 0 _ rfl
  have r1 := HT.out.cell 1 _ rfl
  rw [Nat.add_zero] at r0
  have hn2 : ¬ (n : Int) < 2 := by omega
  have hn1 : (1 : Int) < (n : Int) := by omega
  have hn0 : (0 : Int) < (n : Int) := by omega
  rw [show mkB [58] = ⟨#[58]⟩ from rfl] at r1
  have RC := hide (readCategory_any c (w.alloc (.cells #[.int .i64 0, .slice none 0 0] 120)))
  rw [hc] at RC
  have TB := HT.out.cut 2 n (by omega) (by simp; omega)
  rw [show ((c :: [58] :: r).take n).drop 2 = r from by rw [List.take_of_length_le (by simp; omega)]; rfl] at TB
  have HE := hide (he.below HB.out)
  rw [show cutA off cap 2 = off + 2 from if_neg hcp] at TB
  have CC : Hid (∀ X, Hid (Below (w.alloc (.cells #[.int .i64 0, .slice none 0 0] 120)).heap.size (w.alloc (.cells #[.int .i64 0, .slice none 0 0] 120)) X) → Calls Tryz.prog 151 #[.slice (some ⟨g, off + 2, none⟩) (n - 2) (cap - 2)] X fun e w' => (∃ sa sn sc, e = .returned (.slice sa sn sc) ∧ Hid (Lst w.heap.size 172 1 (ElAll w.heap.size) a (.slice sa sn sc) w')) ∧ Hid (Below (w.alloc (.cells #[.int .i64 0, .slice none 0 0] 120)).heap.size (w.alloc (.cells #[.int .i64 0, .slice none 0 0] 120)) w')) := by
    intro X bX
    have h := readCondition_is g _ _ _ _ X (TB.below bX.out) ht (HE.out.below bX.out) hl
    rw [ha] at h
    refine h.mono ?_
    rintro e w' ⟨hb, v', rfl, hv'⟩
    obtain ⟨sa, sn, sc, rfl⟩ := Lst.slice hv'
    have hxs : w.heap.size ≤ X.heap.size := Nat.le_trans HB.out.size bX.out.size
    exact ⟨⟨sa, sn, sc, rfl, Lst.low hv' hxs (ElAll.low hxs)⟩, bX.out.trans (hb.mono bX.out.size)⟩
  have hk5 : ((k : Int) == 5) = false := beq_eq_false_iff_ne.2 (by omega)
  clear hc hk ha ht hl he hv hn HT TB HE
  have hcp2 : ¬ cap = 2 := fun h => hcp h.symm
  have hcp3 : (2 : Int) ≤ (n : Int) := by omega
  go_enter Tryz.func99, Tryz.ntmps99
  go_wp2_with fail
  refine RC.out.mono ?_
  rintro e w1 ⟨hb, v, rfl, rfl⟩
  have b1 := hide hb
  clear hb RC
  go_wp2_with fail
  refine (CC.out _ b1).mono ?_
  rintro e w2 ⟨⟨sa, sn, sc, rfl, HSV⟩, b2⟩
  have BR1 := Blk.on BR b2.out
  have HB1 := hide (HB.out.trans (b2.out.mono HB.out.size))
  clear b1 b2 CC BR HB
  obtain ⟨f0, f1⟩ : w2.frozen? ⟨w.heap.size, 0, none⟩ = false ∧ w2.frozen? ⟨w.heap.size, 1, none⟩ = false := ⟨BR1.out.free 0, BR1.out.free 1⟩
  obtain ⟨c0, c1⟩ := BR1.out.two
  go_wp2
  refine bodyPost_ret (results_rule rfl _ _ _ _ _ rfl (BR1.out.put2 _ _)) rfl ?_
  refine Ans.ret rfl (below_put2 HB1.out (Nat.le_refl _) _ _) ⟨sa, sn, sc, rfl, ?_⟩
  exact HSV.out.kt (kt_put2 BR1.out _ _) (by decide) (ElAll.kt (by decide) (by decide) _ _ (kt_put2 BR1.out _ _))

set_option maxHeartbeats 1000000 in
theorem rul_ne (g off n cap : Nat) (r : List Tok) (w : World) (c : Tok) (k : Nat) (hc : catT c = some k) (hk : k ≠ 5) (ha : condT r = none) (ht : Tks r) (hl : r.length ≤ 1024) (he : Evs w) (hcp : 2 = cap) (hn : n = r.length + 2) (hv : TokV w g off cap (c :: [58] :: r) (.slice (some ⟨g, off, none⟩) n cap)) :
    Calls Tryz.prog 99 #[.slice (some ⟨g, off, none⟩) n cap] w (Ans (none : Option (Nat × List (List RelT))) (IsRule w.heap.size) w) := by
  have BR := hide (Blk.newAt w w.heap.size rfl #[.int .i64 0, .slice none 0 0] 120)
  have HB : Hid (Below w.heap.size w (w.alloc (.cells #[.int .i64 0, .slice none 0 0] 120))) := (Below.refl w.heap.size w).alloc (Nat.le_refl _) _
  have HT := hide (hv.below HB.out)
  have hcap : n ≤ cap := by have := hv.2.1; simp at this; omega
  have hcm : cap ≤ 9223372036854775807 := hv.2.2.1
  have r0 := HT.out.cell 0 _ rfl
  have r1 := HT.out.cell 1 _ rfl
  rw [Nat.add_zero] at r0
  have hn2 : ¬ (n : Int) < 2 := by omega
  have hn1 : (1 : Int) < (n : Int) := by omega
  have hn0 : (0 : Int) < (n : Int) := by omega
  rw [show mkB [58] = ⟨#[58]⟩ from rfl] at r1
  have RC := hide (readCategory_any c (w.alloc (.cells #[.int .i64 0, .slice none 0 0] 120)))
  rw [hc] at RC
  have TB := HT.out.cut 2 n (by omega) (by simp; omega)
  rw [show ((c :: [58] :: r).take n).drop 2 = r from by rw [List.take_of_length_le (by simp; omega)]; rfl] at TB
  have HE := hide (he.below HB.out)
  have hz2 : n - 2 = 0 := by omega
  rw [show cutA off cap 2 = off from if_pos hcp, hz2, show cap - 2 = 0 by omega] at TB
  have hn' : n = 2 := by omega
  have hcap' : cap = 2 := by omega
  have CC : Hid (∀ X, Hid (Below (w.alloc (.cells #[.int .i64 0, .slice none 0 0] 120)).heap.size (w.alloc (.cells #[.int .i64 0, .slice none 0 0] 120)) X) → Calls Tryz.prog 151 #[.slice (some ⟨g, off, none⟩) 0 0] X fun e w' => e = .panicked PC ∧ Hid (Below (w.alloc (.cells #[.int .i64 0, .slice none 0 0] 120)).heap.size (w.alloc (.cells #[.int .i64 0, .slice none 0 0] 120)) w')) := by
    intro X bX
    have h := readCondition_is g _ _ _ _ X (TB.below bX.out) ht (HE.out.below bX.out) hl
    rw [ha] at h
    refine h.mono ?_
    rintro e w' ⟨hb, rfl⟩
    exact ⟨rfl, bX.out.trans (hb.mono bX.out.size)⟩
  have hk5 : ((k : Int) == 5) = false := beq_eq_false_iff_ne.2 (by omega)
  clear hc hk ha ht hl he hv hn HT TB HE hz2
  clear hcp hn0 hn1 hn2 hcap
  subst hn'
  subst hcap'
  go_enter Tryz.func99, Tryz.ntmps99
  go_wp2_with fail
  refine RC.out.mono ?_
  rintro e w1 ⟨hb, v, rfl, rfl⟩
  have b1 := hide hb
  clear hb RC
  go_wp2_with fail
  refine (CC.out _ b1).mono ?_
  rintro e w2 ⟨rfl, b2⟩
  have HB1 := hide (HB.out.trans (b2.out.mono HB.out.size))
  clear b1 b2 CC BR HB
  go_wp2
  exact ⟨rfl, Ans.panic rfl HB1.out⟩

set_option maxHeartbeats 1000000 in
theorem rul_nn (g off n cap : Nat) (r : List Tok) (w : World) (c : Tok) (k : Nat) (hc : catT c = some k) (hk : k ≠ 5) (ha : condT r = none) (ht : Tks r) (hl : r.length ≤ 1024) (he : Evs w) (hcp : 2 ≠ cap) (hn : n = r.length + 2) (hv : TokV w g off cap (c :: [58] :: r) (.slice (some ⟨g, off, none⟩) n cap)) :
    Calls Tryz.prog 99 #[.slice (some ⟨g, off, none⟩) n cap] w (Ans (none : Option (Nat × List (List RelT))) (IsRule w.heap.size) w) := by
  have BR := hide (Blk.newAt w w.heap.size rfl #[.int .i64 0, .slice none 0 0] 120)
  have HB : Hid (Below w.heap.size w (w.alloc (.cells #[.int .i64 0, .slice none 0 0] 120))) := (Below.refl w.heap.size w).alloc (Nat.le_refl _) _
  have HT := hide (hv.below HB.out)
  have hcap : n ≤ cap := by have := hv.2.1; simp at this; omega
  have hcm : cap ≤ 9223372036854775807 := hv.2.2.1
  have r0 := HT.out.cell 0 _ rfl
  have r1 := HT.out.cell 1 _ rfl
  rw [Nat.add_zero] at r0
  have hn2 : ¬ (n : Int) < 2 := by omega
  have hn1 : (1 : Int) < (n : Int) := by omega
  have hn0 : (0 : Int) < (n : Int) := by omega
  rw [show mkB [58] = ⟨#[58]⟩ from rfl] at r1
  have RC := hide (readCategory_any c (w.alloc (.cells #[.int .i64 0, .slice none 0 0] 120)))
  rw [hc] at RC
  have TB := HT.out.cut 2 n (by omega) (by simp; omega)
  rw [show ((c :: [58] :: r).take n).drop 2 = r from by rw [List.take_of_length_le (by simp; omega)]; rfl] at TB
  have HE := hide (he.below HB.out)
  rw [show cutA off cap 2 = off + 2 from if_neg hcp] at TB
  have CC : Hid (∀ X, Hid (Below (w.alloc (.cells #[.int .i64 0, .slice none 0 0] 120)).heap.size (w.alloc (.cells #[.int .i64 0, .slice none 0 0] 120)) X) → Calls Tryz.prog 151 #[.slice (some ⟨g, off + 2, none⟩) (n - 2) (cap - 2)] X fun e w' => e = .panicked PC ∧ Hid (Below (w.alloc (.cells #[.int .i64 0, .slice none 0 0] 120)).heap.size (w.alloc (.cells #[.int .i64 0, .slice none 0 0] 120)) w')) := by
    intro X bX
    have h := readCondition_is g _ _ _ _ X (TB.below bX.out) ht (HE.out.below bX.out) hl
    rw [ha] at h
    refine h.mono ?_
    rintro e w' ⟨hb, rfl⟩
    exact ⟨rfl, bX.out.trans (hb.mono bX.out.size)⟩
  have hk5 : ((k : Int) == 5) = false := beq_eq_false_iff_ne.2 (by omega)
  clear hc hk ha ht hl he hv hn HT TB HE
  have hcp2 : ¬ cap = 2 := fun h => hcp h.symm
  have hcp3 : (2 : Int) ≤ (n : Int) := by omega
  go_enter Tryz.func99, Tryz.ntmps99
  go_wp2_with fail
  refine RC.out.mono ?_
  rintro e w1 ⟨hb, v, rfl, rfl⟩
  have b1 := hide hb
  clear hb RC
  go_wp2_with fail
  refine (CC.out _ b1).mono ?_
  rintro e w2 ⟨rfl, b2⟩
  have HB1 := hide (HB.out.trans (b2.out.mono HB.out.size))
  clear b1 b2 CC BR HB
  go_wp2
  exact ⟨rfl, Ans.panic rfl HB1.out⟩

theorem readRule_any (g off cap : Nat) (ts : List Tok) (v : Value) (w : World) (hv : TokV w g off cap ts v) (ht : Tks ts) (he : Evs w) (hl : ts.length ≤ 1024) :
    Calls Tryz.prog 99 #[v] w (Ans (ruleT ts) (IsRule w.heap.size) w) := by
  obtain rfl : v = .slice (some ⟨g, off, none⟩) ts.length cap := hv.1
  match ts, hv, ht, hl with
  | [], hv, _, _ => exact rul_short _ 0 cap w (by omega)
  | [_], hv, _, _ => exact rul_short _ 1 cap w (by omega)
  | c :: d :: r, hv, ht, hl =>
    have ht' : Tks r := fun t h => ht t (by simp [h])
    have hl' : r.length ≤ 1024 := by simp at hl; omega
    by_cases hd : d = [58]
    · subst hd
      cases hc : catT c with
      | none => rw [show ruleT (c :: [58] :: r) = none by simp [ruleT, hc]]; exact rul_cat g off _ cap r c hc w rfl hv
      | some k =>
        by_cases hk : k = 5
        · subst hk
          rw [show ruleT (c :: [58] :: r) = none by simp [ruleT, hc]; cases condT r <;> rfl]
          exact rul_oth g off _ cap r c hc w rfl hv
        · cases ha : condT r with
          | none =>
            rw [show ruleT (c :: [58] :: r) = none by simp [ruleT, hc, ha]]
            by_cases hcp : 2 = cap
            · exact rul_ne g off _ cap r w c k hc hk ha ht' hl' he hcp rfl hv
            · exact rul_nn g off _ cap r w c k hc hk ha ht' hl' he hcp rfl hv
          | some a =>
            rw [show ruleT (c :: [58] :: r) = some (k, a) by simp [ruleT, hc, ha, hk]]
            by_cases hcp : 2 = cap
            · exact rul_ye g off _ cap r w c k a hc hk ha ht' hl' he hcp rfl hv
            · exact rul_yn g off _ cap r w c k a hc hk ha ht' hl' he hcp rfl hv
    · rw [show ruleT (c :: d :: r) = none by simp [ruleT, hd]]; exact rul_colon g off _ cap r c d hd w rfl hv

end Go.Proofs.YtkbciljfjijclaaGreatDoor

namespace Go.Proofs.YtkbciljfjijclaaGreatDoor
open Go.RowKit

attribute [local go_sem] Oper.semAt_some

def Taken {β : Type} (W : World) (b : Nat) (ys : List (Nat × β)) : Prop := ∃ cs : Array Value, Blk W b cs 114 ∧ cs.size = 6 ∧ ∀ j, j < 6 → cs[j]? = some (.bool (ys.any fun y => y.1 == j))

theorem Taken.kt {β : Type} {S : TypeId → Prop} {X Y : World} {b : Nat} {ys : List (Nat × β)} (h : Taken X b ys) (hk : KT S X Y) (hs : S 114) : Taken Y b ys := by
  obtain ⟨cs, h1, h2, h3⟩ := h
  exact ⟨cs, hk.same _ _ _ _ h1 hs, h2, h3⟩

theorem Taken.cell {β : Type} {X : World} {b : Nat} {ys : List (Nat × β)} (h : Taken X b ys) (j : Nat) (hj : j < 6) : X.cell? ⟨b, j, none⟩ = some (.bool (ys.any fun y => y.1 == j)) ∧ X.frozen? ⟨b, j, none⟩ = false := by
  obtain ⟨cs, h1, h2, h3⟩ := h
  exact ⟨by rw [h1.cell, h3 j hj], h1.free j⟩

theorem blk_setC {w : World} {b : Nat} {cs : Array Value} {t : TypeId} (h : Blk w b cs t) (i : Nat) (y : Value) : Blk (w.setCell ⟨b, i, none⟩ y) b (cs.set! i y) t := by
  unfold Blk at *
  simp only [World.setCell, Array.getElem?_modify, if_true, h, Option.map_some]
  rfl

theorem kt_put1 {W : World} {b : Nat} {cs : Array Value} {t : TypeId} (h : Blk W b cs t) (i : Nat) (y0 : Value) : KT (fun ty => ty ≠ t) W (W.setCell ⟨b, i, none⟩ y0) := by
  refine ⟨by simp [World.setCell], fun k c ty fz hk hs => ?_⟩
  have hne : k ≠ b := by
    rintro rfl
    rw [show W.heap[k]? = _ from h] at hk
    cases hk; exact hs rfl
  rw [Below.heap_setCell _ _ _ _ hne]
  exact hk

theorem own_tokV {base : Nat} {ts : List Tok} {v : Value} {W : World} (h : Own1 base ts v W) (hne : ts ≠ []) : ∃ g cap, v = .slice (some ⟨g, 0, none⟩) ts.length cap ∧ TokV W g 0 cap ts v ∧ base ≤ g := by
  rcases h.2 with ⟨_, h0⟩ | ⟨g, cap, cur, h1, h2, h3, h4, h5, h6, h7⟩
  · exact absurd (List.eq_nil_of_length_eq_zero h0) hne
  · refine ⟨g, cap, h1, ⟨h1, h4, Nat.le_trans h5 (by decide), lt_of_block h3, fun i t ht => ?_⟩, h2⟩
    have hi : i < ts.length := by
      rcases Nat.lt_or_ge i ts.length with q | q
      · exact q
      · rw [List.getElem?_eq_none q] at ht; cases ht
    have hc : cur[i]? = some (.string (mkB t)) := by
      have e : (cur.toList.take (ts.length * 1))[i]? = (ts.map fun l => Value.string (mkB l))[i]? := by rw [h7]
      rw [List.getElem?_take_of_lt (by omega), Array.getElem?_toList, List.getElem?_map, ht] at e
      exact e
    simp only [World.cell?, h3, Option.isSome_none, Bool.false_eq_true, if_false, Nat.zero_add, hc]

theorem Taken.more {β : Type} {X : World} {b : Nat} {ys : List (Nat × β)} (h : Taken X b ys) (y : Nat × β) (hj : y.1 < 6) : Taken (X.setCell ⟨b, y.1, none⟩ (.bool true)) b (ys ++ [y]) := by
  obtain ⟨cs, h1, h2, h3⟩ := h
  refine ⟨cs.set! y.1 (.bool true), blk_setC h1 _ _, by simpa using h2, fun j hj' => ?_⟩
  rw [Array.set!_eq_setIfInBounds, Array.getElem?_setIfInBounds]
  by_cases e : y.1 = j
  · subst e
    rw [if_pos rfl, if_pos (by omega)]
    simp
  · rw [if_neg e, h3 j hj', List.any_append]
    simp [e]

theorem unlike_snoc {α β : Type} [DecidableEq α] (ys : List (α × β)) (y : α × β) : unlike (ys ++ [y]) = (unlike ys && !(ys.any fun z => z.1 == y.1)) := by
  induction ys with
  | nil => simp [unlike]
  | cons x l ih =>
    rw [List.cons_append, unlike, ih, unlike, List.any_append, List.any_cons]
    have e : (y.1 == x.1) = (x.1 == y.1) := by rw [Bool.beq_comm]
    simp only [List.any_cons, List.any_nil, Bool.or_false, e]
    cases (l.any fun y => y.1 == x.1) <;> cases (x.1 == y.1) <;> cases unlike l <;> cases (l.any fun z => z.1 == y.1) <;> rfl

theorem unlike_part {α β : Type} [DecidableEq α] (a b : List (α × β)) (h : unlike (a ++ b) = true) : unlike a = true := by
  induction a with
  | nil => rfl
  | cons x l ih =>
    rw [List.cons_append, unlike, Bool.and_eq_true, List.any_append, Bool.not_eq_true', Bool.or_eq_false_iff] at h
    rw [unlike, Bool.and_eq_true, ih h.2, h.1.1]
    exact ⟨rfl, rfl⟩

theorem mapM_pre {α β : Type} {f : α → Option β} : ∀ {l : List α} {ys : List β} (k : Nat), l.mapM f = some ys → (l.take k).mapM f = some (ys.take k)
  | [], ys, k, h => by simp at h; subst h; simp
  | a :: l, ys, k, h => by
    rw [List.mapM_cons] at h
    cases ha : f a with
    | none => simp [ha] at h
    | some b =>
      cases hl : l.mapM f with
      | none => simp [ha, hl] at h
      | some bs =>
        simp [ha, hl] at h
        subst h
        cases k with
        | zero => simp
        | succ k => rw [List.take_succ_cons, List.take_succ_cons, List.mapM_cons, ha, mapM_pre k hl]; rfl

theorem rules_twice {α β γ : Type} [DecidableEq β] {f : α → Option (β × γ)} {rows : List α} {k : Nat} {ys : List (β × γ)} (hy : (rows.take k).mapM f = some ys) (hu : unlike ys = false) :
    onlyU (rows.mapM f) = none := by
  cases hm : rows.mapM f with
  | none => rfl
  | some l =>
    have h1 := mapM_pre k hm
    rw [hy, Option.some.injEq] at h1
    unfold onlyU
    dsimp only
    rw [if_neg]
    intro hl
    have := unlike_part (l.take k) (l.drop k) (by rw [List.take_append_drop]; exact hl)
    rw [← h1, hu] at this
    cases this

theorem catT_lt {c : Tok} {k : Nat} (h : catT c = some k) : k < 6 := by
  unfold catT at h
  repeat' split at h
  all_goals first | (cases h; done) | (simp only [Option.some.injEq] at h; omega)

theorem ruleT_lt {r : List Tok} {y : Nat × List (List RelT)} (h : ruleT r = some y) : y.1 < 6 := by
  unfold ruleT at h
  split at h
  · rename_i c d r'
    split at h
    · cases hc : catT c with
      | none => simp [hc] at h
      | some k =>
        cases ha : condT r' with
        | none => simp [hc, ha] at h
        | some a =>
          simp only [hc, ha] at h
          split at h
          · cases h
          · simp only [Option.some.injEq] at h
            subst h
            exact catT_lt hc
    · cases h
  · cases h

set_option maxRecDepth 100000 in
set_option maxHeartbeats 4000000 in
theorem readRules_rows (ts : List Tok) (t : ByteArray) (w : World) (RS : Option (List (Nat × List (List RelT)))) (hRS : RS = onlyU ((splitT [59] ts).mapM ruleT))
    (hga : gatT (bys t) = some ts) (htt : t.size ≤ 1024) (hne : ts ≠ []) (ht : Tks ts) (he : Evs w) (hl : ts.length ≤ 1024) :
    Calls Tryz.prog 45 #[.string t] w (Ans RS (fun ys v' W' => Lst w.heap.size 120 2 (ElRule w.heap.size) ys v' W') w) := by
  have GA := hide (gather_any t w htt)
  rw [hga] at GA
  have BT := hide (fun g cap X => between_any (some ⟨g, 0, none⟩) ts.length cap ⟨#[59]⟩ X)
  obtain ⟨i0, hi, hz0, hz1, hz2⟩ := info_parts info_rule
  obtain ⟨xs, hxs⟩ : ∃ xs, xs = cutsAt [59] 0 0 ts := ⟨_, rfl⟩
  obtain ⟨rows, hrs⟩ : ∃ rows, rows = splitT [59] ts := ⟨_, rfl⟩
  have hrows : xs.map (fun x => (ts.take x.2).drop x.1) = rows := by rw [hxs, hrs]; exact cutsAt_split _ _
  have hin : ∀ x, x ∈ xs → x.1 ≤ x.2 ∧ x.2 ≤ ts.length := fun x hx => by
    rw [hxs] at hx
    have := cutsAt_in [59] ts 0 0 (Nat.le_refl _) x hx
    exact ⟨this.1, by simpa using this.2⟩
  have hxl : xs.length ≤ 1025 := by rw [hxs]; exact Nat.le_trans (cutsAt_len [59] ts 0 0) (by omega)
  have hnl : ((ts.length : Int) == 0) = false := beq_eq_false_iff_ne.2 (by have := List.length_pos_iff.2 hne; omega)
  rw [← hrs] at hRS
  have HXS := hide hxs
  have HRW := hide hrows
  have HRS := hide hRS
  have HE := hide he
  have HNE := hide hne
  clear hrs hxs hrows hRS hga hne he htt
  refine calls_pan Tryz.func45 rfl ?_
  simp only [Tryz.ntmps45, List.size_toArray, List.length_cons, List.length_nil, Nat.reduceAdd, Nat.reduceSub, Array.replicate_succ, Array.replicate_zero, List.push_toArray, List.append_toArray, List.nil_append, List.cons_append]
  refine WpAt.seq (WpAt.of_wp ?_)
  go_wp2
  refine WpAt.seq (WpAt.of_wp ?_)
  go_wp2_with fail
  refine GA.out.mono ?_
  rintro e wa ⟨hba, v, rfl, hown⟩
  obtain ⟨g, cap, rfl, hva, _⟩ := own_tokV hown HNE.out
  have HBA := hide hba
  have HVA := hide hva
  clear hba hva GA hown
  go_wp2
  refine WpAt.seq (WpAt.of_wp ?_)
  go_wp2
  refine WpAt.seq (WpAt.of_wp ?_)
  go_wp2
  refine WpAt.seq (WpAt.of_wp ?_)
  go_wp2
  refine WpAt.seq (WpAt.seq (WpAt.of_wp ?_))
  go_wp2_with fail
  refine (BT.out _ _ _).mono ?_
  rintro e w1 ⟨rfl, rfl⟩
  go_wp2
  have hB0 : Below wa.heap.size wa ((((wa.alloc (.cells #[.slice none 0 0] 75)).alloc (.cells #[.bool false, .bool false, .bool false, .bool false, .bool false, .bool false] 114)).alloc (.cells #[.slice (some ⟨g, 0, none⟩) ts.length cap] 112)).alloc (.cells #[.string ⟨#[59]⟩] 9)) := ((((Below.refl _ wa).alloc (Nat.le_refl _) _).alloc (by simp) _).alloc (by simp; omega) _).alloc (by simp; omega) _
  have bO := (((Boxed.new wa 75 (.slice none 0 0)).alloc (.cells #[.bool false, .bool false, .bool false, .bool false, .bool false, .bool false] 114)).alloc (.cells #[.slice (some ⟨g, 0, none⟩) ts.length cap] 112)).alloc (.cells #[.string ⟨#[59]⟩] 9)
  have bT := ((Blk.new (wa.alloc (.cells #[.slice none 0 0] 75)) #[.bool false, .bool false, .bool false, .bool false, .bool false, .bool false] 114).alloc (.cells #[.slice (some ⟨g, 0, none⟩) ts.length cap] 112)).alloc (.cells #[.string ⟨#[59]⟩] 9)
  have bx1 := (Boxed.new ((wa.alloc (.cells #[.slice none 0 0] 75)).alloc (.cells #[.bool false, .bool false, .bool false, .bool false, .bool false, .bool false] 114)) 112 (.slice (some ⟨g, 0, none⟩) ts.length cap)).alloc (.cells #[.string ⟨#[59]⟩] 9)
  have bx2 := Boxed.new (((wa.alloc (.cells #[.slice none 0 0] 75)).alloc (.cells #[.bool false, .bool false, .bool false, .bool false, .bool false, .bool false] 114)).alloc (.cells #[.slice (some ⟨g, 0, none⟩) ts.length cap] 112)) 9 (.string ⟨#[59]⟩)
  simp only [World.size_alloc] at bT bx1 bx2
  obtain ⟨W0, hW0⟩ : ∃ W0, W0 = (((wa.alloc (.cells #[.slice none 0 0] 75)).alloc (.cells #[.bool false, .bool false, .bool false, .bool false, .bool false, .bool false] 114)).alloc (.cells #[.slice (some ⟨g, 0, none⟩) ts.length cap] 112)).alloc (.cells #[.string ⟨#[59]⟩] 9) := ⟨_, rfl⟩
  have hsz0 : W0.heap.size = wa.heap.size + 4 := by rw [hW0]; simp
  rw [← hW0] at hB0 bO bT bx1 bx2 ⊢
  clear hW0
  have hgs : g < wa.heap.size := HVA.out.2.2.2.1
  have hseq := between1_pan (wa.heap.size + 1 + 1) (wa.heap.size + 1 + 1 + 1) g 0 cap ⟨#[59]⟩ ts _ W0 (by omega) (by omega) bx1.cell bx2.cell (HVA.out.below hB0)
  rw [show bys ⟨#[59]⟩ = [59] from rfl, ← HXS.out] at hseq
  have hws : w.heap.size ≤ wa.heap.size := HBA.out.size
  have htk0 : Taken W0 (wa.heap.size + 1) ([] : List (Nat × List (List RelT))) := ⟨_, bT, rfl, fun j hj => by
    match j, hj with
    | 0, _ => rfl
    | 1, _ => rfl
    | 2, _ => rfl
    | 3, _ => rfl
    | 4, _ => rfl
    | 5, _ => rfl⟩
  refine WpAt.block (WpAt.range Tryz.func45 (gf := 149) (lb := #[.pointer (some ⟨wa.heap.size + 1 + 1, 0, none⟩), .pointer (some ⟨wa.heap.size + 1 + 1 + 1, 0, none⟩)]) rfl (enters_of Tryz.func149 (by kernel_rfl) rfl)
    hseq (fun h k => h.trans k) (fun {X Y} h => fun k hk => h.below.block k ?klt) (fun _ => rfl)
    (fun k W => (∃ v ys, Boxed W wa.heap.size 75 v ∧ (rows.take k).mapM ruleT = some ys ∧ unlike ys = true ∧ Taken W (wa.heap.size + 1) ys ∧ Lst wa.heap.size 120 2 (ElRule wa.heap.size) ys v W) ∧ Boxed W (wa.heap.size + 1 + 1) 112 (.slice (some ⟨g, 0, none⟩) ts.length cap) ∧ Boxed W (wa.heap.size + 1 + 1 + 1) 9 (.string ⟨#[59]⟩) ∧ Below wa.heap.size wa W) (fun W => RS = none ∧ Below wa.heap.size wa W)
    ?inv ?start (fun x => { tmps := #[.string t, undef, .slice none 0 0, .slice (some ⟨g, 0, none⟩) ts.length cap, .pointer (some ⟨wa.heap.size, 0, none⟩), .pointer (some ⟨wa.heap.size + 1, 0, none⟩), .slice (some ⟨g, cutA 0 cap x.1, none⟩) (x.2 - x.1) (cap - x.1), undef, .string t, .slice (some ⟨g, 0, none⟩) ts.length cap, .slice (some ⟨g, 0, none⟩) ts.length cap, .int .i64 (ts.length : Int), .bool false, .slice (some ⟨g, 0, none⟩) ts.length cap, .func (.func 149) #[] #[.pointer (some ⟨wa.heap.size + 1 + 1, 0, none⟩), .pointer (some ⟨wa.heap.size + 1 + 1 + 1, 0, none⟩)], .slice (some ⟨g, cutA 0 cap x.1, none⟩) (x.2 - x.1) (cap - x.1), undef, undef, undef, undef, undef, undef, undef, undef, undef, undef, undef, undef, undef, undef, undef], defers := [] }) ?assign ?body ?done ?pan) ?x1 ?x2
  case klt =>
    rw [hsz0]
    simp only [List.mem_cons, List.not_mem_nil, or_false] at hk
    omega
  case x1 => exact fun _ _ _ h => h
  case x2 => exact fun _ _ _ h => h
  case inv =>
    rintro k X Y ⟨⟨v, ys, hv, hm, hu, htk, hr⟩, hb1, hb2, hB⟩ hx
    exact ⟨⟨v, ys, boxed_xt hv hx, hm, hu, htk.kt (S := fun _ => True) (KT.of_xt hx) trivial, hr.kt (S := fun _ => True) (KT.of_xt hx) trivial (ElRule.kt (S := fun _ => True) trivial trivial trivial X Y (KT.of_xt hx))⟩, boxed_xt hb1 hx, boxed_xt hb2 hx, hB.trans (hx.below.mono (by omega))⟩
  case start => exact ⟨⟨_, [], bO, rfl, rfl, htk0, Lst.nil _ _ _ _ _⟩, bx1, bx2, hB0⟩
  case assign =>
    intro l x W K hK
    gi_wp2
    exact hK
  case body =>
    rintro l k x W hx ⟨⟨v, ys, hbv, hm, hu, htk, hlst⟩, hb1, hb2, hB⟩ hsz
    have hxm := hin x (List.mem_of_getElem? hx)
    have hrk : rows[k]? = some ((ts.take x.2).drop x.1) := by rw [← HRW.out, List.getElem?_map, hx]; rfl
    have TV := (HVA.out.below hB).cut x.1 x.2 hxm.1 hxm.2
    have TK := ht.cut x.1 x.2
    have EV := (HE.out.below HBA.out).below hB
    have TL : ((ts.take x.2).drop x.1).length ≤ 1024 := by simp; omega
    have hkx : k < xs.length := by
      rcases Nat.lt_or_ge k xs.length with q | q
      · exact q
      · rw [List.getElem?_eq_none q] at hx; cases hx
    have hyl : ys.length = k := by
      have := mapM_len hm
      have h2 : rows.length = xs.length := by rw [← HRW.out]; simp
      rw [this, List.length_take]; omega
    have hml : 1026 ≤ maxLen := by decide
    obtain ⟨R, hR⟩ : ∃ R, R = (ts.take x.2).drop x.1 := ⟨_, rfl⟩
    rw [← hR] at hrk TV TK TL
    obtain ⟨qa, hqa⟩ : ∃ qa, qa = cutA 0 cap x.1 := ⟨_, rfl⟩
    obtain ⟨qn, hqn⟩ : ∃ qn, qn = x.2 - x.1 := ⟨_, rfl⟩
    obtain ⟨qc, hqc⟩ : ∃ qc, qc = cap - x.1 := ⟨_, rfl⟩
    rw [← hqa, ← hqn, ← hqc] at TV
    simp only [← hqa, ← hqn, ← hqc]
    have HM := hide hm
    have HU := hide hu
    have HTK := hide htk
    have HR := hide hrk
    have HYL := hide hyl
    have HBW := hide hB
    have RR := hide (readRule_any g qa qc R _ W TV TK EV TL)
    clear hxm hR hqa hqn hqc hm hrk hyl TV TK EV TL hu htk hB hx
    cases hf : ruleT R with
    | none =>
      rw [hf] at RR
      have HF := hide hf
      clear hf
      gi_wp2_with fail
      refine ⟨trivial, CallsIn.inRound l ((callsIn_wide.2 RR.out).mono ?_)⟩
      rintro e v1 ⟨b1, rfl⟩
      have hno : RS = none := by rw [HRS.out, mapM_bad HR.out HF.out]; rfl
      exact ⟨rfl, rfl, (KeepsOthers.of_below b1).from _, hno, HBW.out.trans (b1.mono HBW.out.size)⟩
    | some y =>
      rw [hf] at RR
      have hy6 := ruleT_lt hf
      have HF := hide hf
      clear hf
      obtain ⟨yk, ya⟩ := y
      dsimp only at hy6
      gi_wp2_with fail
      refine ⟨trivial, CallsIn.inRound l ((callsIn_wide.2 RR.out).mono ?_)⟩
      rintro e v1 ⟨b1, v', rfl, sa, sn, sc, rfl, hls⟩
      have hxt : Xt W.heap.size W v1 := Xt.of_below b1 (Nat.le_refl _)
      have htk1 := HTK.out.kt (S := fun _ => True) (KT.of_xt hxt) trivial
      have hbv1 := boxed_xt hbv hxt
      obtain ⟨ck, fk⟩ := htk1.cell yk hy6
      have hy6' : (yk : Int) < 6 := by omega
      have B1 := hide b1
      have HLS := hide hls
      have HTK1 := hide htk1
      clear b1 hls htk1 RR
      have hlt1 : wa.heap.size + 1 < v1.heap.size := Nat.lt_of_lt_of_le (by have := (Array.getElem?_eq_some_iff.1 hb1).1; omega) B1.out.size
      have hnb : ¬ wa.heap.size + 1 = v1.heap.size := by omega
      have hnb2 : ¬ v1.heap.size = wa.heap.size + 1 := by omega
      cases hany : (ys.any fun z => z.1 == yk) with
      | true =>
        rw [hany] at ck
        have HA := hide hany
        clear hany
        gi_wp2
        have hno : RS = none := by
          rw [HRS.out]
          exact rules_twice (mapM_snoc HR.out HM.out HF.out) (by rw [unlike_snoc, HU.out, HA.out]; rfl)
        exact ⟨rfl, rfl, ((KeepsOthers.of_below B1.out).trans (Go.KeepsOthers.alloc _ _)).from _, hno, (HBW.out.trans (B1.out.mono HBW.out.size)).alloc (Nat.le_trans HBW.out.size B1.out.size) _⟩
      | false =>
        rw [hany] at ck
        have HA := hide hany
        clear hany
        obtain ⟨css, hcs1, hcs2, hcs3⟩ := hlst
        have hws1 : wa.heap.size ≤ v1.heap.size := Nat.le_trans HBW.out.size B1.out.size
        obtain ⟨W2, hW2⟩ : ∃ W2, W2 = (v1.setCell ⟨wa.heap.size + 1, yk, none⟩ (.bool true)).alloc (.cells #[.int .i64 (yk : Int), .slice sa sn sc] 120) := ⟨_, rfl⟩
        have hsz2 : W2.heap.size = v1.heap.size + 1 := by rw [hW2]; simp [World.setCell]
        have k12 : KT (fun ty => ty ≠ 114) v1 W2 := by
          rw [hW2]
          exact (kt_put1 HTK1.out.choose_spec.1 _ _).trans (KT.of_below ((Below.refl _ _).alloc (Nat.le_refl _) _))
        have htk2 : Taken W2 (wa.heap.size + 1) (ys ++ [(yk, ya)]) := by
          rw [hW2]
          exact (Taken.more HTK1.out (yk, ya) hy6).kt (S := fun _ => True) (KT.of_below ((Below.refl _ _).alloc (Nat.le_refl _) _)) trivial
        have hbv2 := Boxed.kt hbv1 k12 (by decide)
        have hrow2 := ownsRow_kt (ownsRow_xt hcs2 hxt) k12 (by decide)
        have hE2 : ∀ (i : Nat) x c, ys[i]? = some x → css[i]? = some c → c.length = 2 ∧ ElRule wa.heap.size x c W2 := fun i x c hx hc => ⟨(hcs3 i x c hx hc).1, ElRule.kt (by decide) (by decide) (by decide) _ _ k12 _ _ (ElRule.kt (S := fun _ => True) trivial trivial trivial _ _ (KT.of_xt hxt) _ _ (hcs3 i x c hx hc).2)⟩
        have hel2 : ElRule wa.heap.size (yk, ya) [.int .i64 (yk : Int), .slice sa sn sc] W2 := by
          have hws0 : wa.heap.size ≤ W.heap.size := HBW.out.size
          exact ElRule.kt (by decide) (by decide) (by decide) _ _ k12 _ _ ⟨_, rfl, Lst.low HLS.out hws0 (ElAll.low hws0)⟩
        have cv2 : ((v1.setCell ⟨wa.heap.size + 1, yk, none⟩ (.bool true)).alloc (.cells #[.int .i64 (yk : Int), .slice sa sn sc] 120)).cell? ⟨wa.heap.size, 0, none⟩ = some v := by rw [← hW2]; exact hbv2.cell
        have hnew : ∀ j u, [Value.int .i64 (yk : Int), .slice sa sn sc][j]? = some u → (W2.alloc (.cells #[.int .i64 (yk : Int), .slice sa sn sc] 120)).cell? ((⟨v1.heap.size + 1, 0, none⟩ : Addr).add j) = some u := by
          have := World.news_of_block (heap_alloc_new W2 (.cells #[.int .i64 (yk : Int), .slice sa sn sc] 120))
          rw [hsz2] at this
          exact this
        have HK2 := hide (And.intro k12 (And.intro htk2 (And.intro hE2 hel2)))
        have HC1 := hide hcs1
        have HRO := hide hrow2
        have HBV2 := hide hbv2
        have HW2 := hide hW2
        clear hcs1 hcs2 hcs3 k12 htk2 hE2 hel2 hW2 hrow2
        have HRO2 := HRO
        rw [HW2.out] at hnew HRO
        have hszw : wa.heap.size ≤ W2.heap.size := by omega
        have hlen2 := HYL.out
        gi_wp2_with (gi_at_builtin; refine wpListIn_append_own _ rfl _ _ 75 rfl wa.heap.size 120 i0 (.agg #[.int .i64 0, .slice none 0 0]) 2 32 Tryz.underlying75 hi hz0 hz1 hz2 rfl (by decide) v ys.length css.flatten rfl (HRO.out.alloc _) ⟨v1.heap.size + 1, 0, none⟩ 1 1 [.int .i64 (yk : Int), .slice sa sn sc] rfl rfl hnew (by simp [Value.oneCell']) (by omega) (by omega) (by simp [World.setCell]; omega) ?_; intro v9 w9 hown9 hgrow9 _; rw [← HW2.out] at hgrow9; obtain ⟨g9, cap9, rfl⟩ := ownsRow_succ hown9; obtain ⟨g1, g2, g3, g4, g5, g6⟩ := Lst.grown (S := fun ty => ty ≠ 120 ∧ ty ≠ 75) (x := (yk, ya)) HBV2.out (by decide) hszw (Nat.le_refl _) rfl (fun _ => Iff.rfl) (ElRule.kt ⟨by decide, by decide⟩ ⟨by decide, by decide⟩ ⟨by decide, by decide⟩) HK2.out.2.2.2 css HC1.out HRO2.out HK2.out.2.2.1 hown9 hgrow9; have cc9 := g1.cell; have ff9 := g1.frozen; have GG := hide (And.intro g2 (And.intro g3 (And.intro g4 (And.intro g5 g6)))); clear g1 g2 g3 g4 g5 g6 hown9 hgrow9)
        rw [HYL.out] at GG
        obtain ⟨g2, g3, g4, g5, g6⟩ := GG.out
        have hk1 : KT (fun ty => ty ≠ 114 ∧ ty ≠ 120 ∧ ty ≠ 75) W _ := ((KT.of_xt hxt).trans ⟨HK2.out.1.size, fun k cs ty fz h hs => HK2.out.1.same k cs ty fz h hs.1⟩).trans ⟨g6.size, fun k cs ty fz h hs => g6.same k cs ty fz h hs.2⟩
        have hb1' := Boxed.kt hb1 hk1 (by decide)
        have hb2' := Boxed.kt hb2 hk1 (by decide)
        have hbb : Below wa.heap.size W W2 := by
          rw [HW2.out]
          exact ((B1.out.mono HBW.out.size).setCell (p := ⟨wa.heap.size + 1, yk, none⟩) (by simp) _).alloc (by simp [World.setCell]; omega) _
        have hko : Go.KeepsOthers W W2 := by
          rw [HW2.out]
          exact ((KeepsOthers.of_below B1.out).trans (Go.KeepsOthers.setCell _ _ _)).trans (Go.KeepsOthers.alloc _ _)
        have hB' := (HBW.out.trans hbb).trans g5
        refine ⟨(hko.trans g4).from _, ?_, ⟨_, _, g2, mapM_snoc HR.out HM.out HF.out, by rw [unlike_snoc, HU.out, HA.out]; rfl, HK2.out.2.1.kt g6 (by decide), g3⟩, hb1', hb2', hB'⟩
        intro j hj
        simp only [List.mem_cons, List.not_mem_nil, or_false] at hj
        rcases hj with rfl | rfl | rfl
        · exact (g5.block _ hgs).trans (hbb.block _ hgs)
        · exact (show _ = _ from hb1').trans (show _ = _ from hb1).symm
        · exact (show _ = _ from hb2').trans (show _ = _ from hb2).symm
  case done =>
    rintro D W hst hD ⟨⟨v, ys, hbv, hm, hu, _, hr⟩, _, _, hB⟩ hK
    have hc := hbv.cell
    refine WpAt.seq (WpAt.of_wp ?_)
    go_wp2
    refine WpAt.of_wp ?_
    go_wp2
    refine ⟨by simp, .inl ⟨_, _, rfl, run_takeDeferred hK, ?_⟩⟩
    have hrl : rows.length = xs.length := by rw [← HRW.out]; simp
    rw [← hrl, List.take_length] at hm
    have hyes : RS = some ys := by rw [HRS.out, hm]; unfold onlyU; exact if_pos hu
    refine ⟨_, results_tmp rfl _ _ _, Ans.ret hyes (below_take (HBA.out.trans (hB.mono hws)) (by omega) hK) ?_⟩
    exact (hr.low hws (ElRule.low hws)).kt (S := fun _ => True) (KT.of_xt (Xt.putObj (B := 0) _ (Nat.zero_le _) hK rfl)) trivial (ElRule.kt (S := fun _ => True) trivial trivial trivial _ _ (KT.of_xt (Xt.putObj (B := 0) _ (Nat.zero_le _) hK rfl)))
  case pan =>
    rintro D W hD (⟨hn, hB⟩ | ⟨hst, _⟩) hK
    · refine leave_pan hK (Ans.panic hn (below_take (HBA.out.trans (hB.mono hws)) (by omega) hK))
    · cases hst

end Go.Proofs.YtkbciljfjijclaaGreatDoor

namespace Go.Proofs.YtkbciljfjijclaaGreatDoor
open Go.RowKit

theorem toksF_tk (n : Nat) (s : List UInt8) : ∀ t, t ∈ (toksF n s).1 → Tk t ∧ t.length ≤ s.length := by
  induction n generalizing s with
  | zero => simp [toksF]
  | succ n ih =>
    rw [toksF]
    have hl := trimB_len s
    cases ht : trimB s with
    | nil => simp
    | cons c r =>
      dsimp only
      cases hp : partN (c :: r) with
      | none => simp
      | some k =>
        dsimp only
        intro t hmem
        rcases List.mem_cons.1 hmem with rfl | hm
        · refine ⟨?_, by rw [List.length_take, ← ht]; omega⟩
          have hk := partN_le hp
          obtain ⟨k', rfl⟩ : ∃ k', k = k' + 1 := ⟨k - 1, by omega⟩
          rw [List.take_succ_cons]
          refine ⟨?_, ?_⟩
          · rintro rfl
            have : partN (45 :: r) = none := by
              unfold partN
              simp [isLt, isNm, isSg]
            rw [this] at hp; cases hp
          · rintro rfl
            have : partN (43 :: r) = some 1 := by
              unfold partN
              simp [isLt, isNm, isSg]
            rw [this, Option.some.injEq] at hp
            obtain rfl : k' = 0 := by omega
            rfl
        · obtain ⟨h1, h2⟩ := ih _ t hm
          refine ⟨h1, ?_⟩
          rw [List.length_drop, ← ht] at h2
          omega

theorem toks_tks (s : List UInt8) (h : s.length ≤ 1024) : Tks (toks s).1 := fun t ht => by
  obtain ⟨h1, h2⟩ := toksF_tk _ _ t ht
  exact ⟨h1, by omega⟩

set_option maxHeartbeats 1000000 in
theorem readRules_any (t : ByteArray) (w : World) (htt : t.size ≤ 1024) (he : Evs w) :
    Calls Tryz.prog 45 #[.string t] w (Ans (rulesT (bys t)) (fun ys v' W' => Lst w.heap.size 120 2 (ElRule w.heap.size) ys v' W') w) := by
  have hbl : (bys t).length ≤ 1024 := by rw [bys_len]; exact htt
  have hTL := toks_len (bys t)
  have hTK := toks_tks (bys t) hbl
  obtain ⟨RS, hRS⟩ : ∃ RS, RS = rulesT (bys t) := ⟨_, rfl⟩
  rw [← hRS]
  by_cases h2 : (toks (bys t)).2 = true
  · have HRS : Hid (RS = none) := by show RS = none; rw [hRS]; unfold rulesT; rw [if_pos h2]
    have GA := hide (gather_any t w htt)
    rw [show gatT (bys t) = none from by unfold gatT; rw [if_pos h2]] at GA
    clear hRS h2 hTL hTK hbl he
    refine calls_pan Tryz.func45 rfl ?_
    simp only [Tryz.ntmps45, List.size_toArray, List.length_cons, List.length_nil, Nat.reduceAdd, Nat.reduceSub, Array.replicate_succ, Array.replicate_zero, List.push_toArray, List.append_toArray, List.nil_append, List.cons_append]
    refine WpAt.seq (WpAt.of_wp ?_)
    go_wp2
    refine WpAt.seq (WpAt.of_wp ?_)
    go_wp2_with fail
    refine GA.out.mono ?_
    rintro e wa ⟨hba, rfl⟩
    have HBA := hide hba
    clear hba
    go_wp2
    exact Ans.panic HRS.out HBA.out
  · have hga : gatT (bys t) = some (toks (bys t)).1 := by unfold gatT; rw [if_neg h2]
    by_cases h1 : (toks (bys t)).1 = []
    · have HRS : Hid (RS = some []) := by show RS = some []; rw [hRS]; unfold rulesT; rw [if_neg h2, if_pos h1]
      have GA := hide (gather_any t w htt)
      rw [hga, h1] at GA
      clear hRS h2 hTL hTK hbl he hga h1
      refine calls_pan Tryz.func45 rfl ?_
      simp only [Tryz.ntmps45, List.size_toArray, List.length_cons, List.length_nil, Nat.reduceAdd, Nat.reduceSub, Array.replicate_succ, Array.replicate_zero, List.push_toArray, List.append_toArray, List.nil_append, List.cons_append]
      refine WpAt.seq (WpAt.of_wp ?_)
      go_wp2
      refine WpAt.seq (WpAt.of_wp ?_)
      go_wp2_with fail
      refine GA.out.mono ?_
      rintro e wa ⟨hba, v, rfl, hown⟩
      obtain ⟨a, c, rfl⟩ : ∃ a c, v = .slice a 0 c := by
        rcases hown.2 with ⟨h, _⟩ | ⟨g, cap, cur, h, _⟩
        · exact ⟨_, _, h⟩
        · exact ⟨_, _, h⟩
      have HBA := hide hba
      clear hba hown
      go_wp2
      refine WpAt.seq (WpAt.of_wp ?_)
      go_wp2
      refine ⟨_, results_tmp rfl _ _ _, Ans.ret HRS.out HBA.out ?_⟩
      exact Lst.nil _ _ _ _ _
    · exact readRules_rows _ t w RS (by rw [hRS]; unfold rulesT; rw [if_neg h2, if_neg h1]) hga htt h1 hTK he (by omega)

end Go.Proofs.YtkbciljfjijclaaGreatDoor
