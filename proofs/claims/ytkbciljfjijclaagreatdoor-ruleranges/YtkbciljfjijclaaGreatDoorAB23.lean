/-
  What rule's readEntries does.
  What rule's readEntries (of any text), CheckRanges, isCategory and entryOf do.
  What rule's PickRange does.
  quipulaw09's awake answers true.
  What quipulaw09's alone does; RuleOrder.
  quipuref09.Category answers what catT says.
-/
import Derived.Test.YtkbciljfjijclaaGreatDoorAB22
namespace Go.Proofs.YtkbciljfjijclaaGreatDoor
open Go.RowKit

attribute [local go_sem] Oper.semAt_some

def Taken2 {β : Type} (W : World) (b : Nat) (ys : List ((Nat × Nat) × β)) : Prop := ∃ cs : Array Value, Blk W b cs 133 ∧ cs.size = 36 ∧ ∀ x y, x < 6 → y < 6 → cs[x * 6 + y]? = some (.bool (ys.any fun u => decide (u.1 = (x, y))))

theorem Taken2.kt {β : Type} {S : TypeId → Prop} {X Y : World} {b : Nat} {ys : List ((Nat × Nat) × β)} (h : Taken2 X b ys) (hk : KT S X Y) (hs : S 133) : Taken2 Y b ys := by
  obtain ⟨cs, h1, h2, h3⟩ := h
  exact ⟨cs, hk.same _ _ _ _ h1 hs, h2, h3⟩

theorem Taken2.cell {β : Type} {X : World} {b : Nat} {ys : List ((Nat × Nat) × β)} (h : Taken2 X b ys) (x y : Nat) (hx : x < 6) (hy : y < 6) : X.cell? ⟨b, x * 6 + y, none⟩ = some (.bool (ys.any fun u => decide (u.1 = (x, y)))) ∧ X.frozen? ⟨b, x * 6 + y, none⟩ = false := by
  obtain ⟨cs, h1, h2, h3⟩ := h
  exact ⟨by rw [h1.cell, h3 x y hx hy], h1.free _⟩

theorem Taken2.more {β : Type} {X : World} {b : Nat} {ys : List ((Nat × Nat) × β)} (h : Taken2 X b ys) (u : (Nat × Nat) × β) (hu1 : u.1.1 < 6) (hy : u.1.2 < 6) : Taken2 (X.setCell ⟨b, u.1.1 * 6 + u.1.2, none⟩ (.bool true)) b (ys ++ [u]) := by
  obtain ⟨cs, h1, h2, h3⟩ := h
  refine ⟨cs.set! (u.1.1 * 6 + u.1.2) (.bool true), blk_setC h1 _ _, by simpa using h2, fun x y hx' hy' => ?_⟩
  have hu1' := hu1
  rw [Array.set!_eq_setIfInBounds, Array.getElem?_setIfInBounds]
  by_cases e : u.1 = (x, y)
  · rw [if_pos (by rw [e]), if_pos (by rw [e]; dsimp only; omega)]
    simp [e]
  · have e' : ¬ u.1.1 * 6 + u.1.2 = x * 6 + y := by
      intro h9
      apply e
      apply Prod.ext
      · show u.1.1 = x; omega
      · show u.1.2 = y; omega
    rw [if_neg e', h3 x y hx' hy', List.any_append]
    simp [e]

theorem entryT_lt {r : List Tok} {y : (Nat × Nat) × Nat} (h : entryT r = some y) : y.1.1 < 6 ∧ y.1.2 < 6 ∧ y.2 < 6 := by
  unfold entryT at h
  split at h
  · rename_i a p b c d
    split at h
    · cases h0 : catT a with
      | none => simp [h0] at h
      | some x =>
        cases h1 : catT b with
        | none => simp [h0, h1] at h
        | some y' =>
          cases h2 : catT d with
          | none => simp [h0, h1, h2] at h
          | some z =>
            simp only [h0, h1, h2, Option.some.injEq] at h
            subst h
            exact ⟨catT_lt h0, catT_lt h1, catT_lt h2⟩
    · cases h
  · cases h

set_option maxRecDepth 100000 in
set_option maxHeartbeats 4000000 in
theorem readEntries_rows (ts : List Tok) (t : ByteArray) (w : World) (RS : Option (List ((Nat × Nat) × Nat))) (hRS : RS = onlyU ((splitT [59] ts).mapM entryT))
    (hga : gatT (bys t) = some ts) (htt : t.size ≤ 1024) (hne : ts ≠ []) (ht : Tks ts) (he : Evs w) (hl : ts.length ≤ 1024) :
    Calls Tryz.prog 53 #[.string t] w (Ans RS (fun ys v' W' => Lst w.heap.size 135 3 ElEntry ys v' W') w) := by
  have GA := hide (gather_any t w htt)
  rw [hga] at GA
  have BT := hide (fun g cap X => between_any (some ⟨g, 0, none⟩) ts.length cap ⟨#[59]⟩ X)
  obtain ⟨i0, hi, hz0, hz1, hz2⟩ := info_parts info_entry
  obtain ⟨xs, hxs⟩ : ∃ xs, xs = cutsAt [59] 0 0 ts := ⟨_, rfl⟩
  obtain ⟨rows, hrs⟩ : ∃ rows, rows = splitT [59] ts := ⟨_, rfl⟩
  have hrows : xs.map (fun x => (ts.take x.2).drop x.1) = rows := by rw [hxs, hrs]; exact cutsAt_split _ _
  have hin : ∀ x, x ∈ xs → x.1 ≤ x.2 ∧ x.2 ≤ ts.length := fun x hx => by
    rw [hxs] at hx
    have := cutsAt_in [59] ts 0 0 (Nat.le_refl _) x hx
    exact ⟨this.1, by simpa using this.2⟩
  have hxl : xs.length ≤ 1025 := by rw [hxs]; exact Nat.le_trans (cutsAt_len [59] ts 0 0) (by omega)
  have hnl : ((ts.length : Int) == 0) = false := beq_eq_false_iff_ne.2 (by have := List.length_pos_iff.2 hne; omega)
  rw [← hrs] at hRS
  have HXS := hide hxs
  have HRW := hide hrows
  have HRS := hide hRS
  have HE := hide he
  have HNE := hide hne
  clear hrs hxs hrows hRS hga hne he htt
  refine calls_pan Tryz.func53 rfl ?_
  simp only [Tryz.ntmps53, List.size_toArray, List.length_cons, List.length_nil, Nat.reduceAdd, Nat.reduceSub, Array.replicate_succ, Array.replicate_zero, List.push_toArray, List.append_toArray, List.nil_append, List.cons_append]
  refine WpAt.seq (WpAt.of_wp ?_)
  go_wp2
  refine WpAt.seq (WpAt.of_wp ?_)
  go_wp2_with fail
  refine GA.out.mono ?_
  rintro e wa ⟨hba, v, rfl, hown⟩
  obtain ⟨g, cap, rfl, hva, _⟩ := own_tokV hown HNE.out
  have HBA := hide hba
  have HVA := hide hva
  clear hba hva GA hown
  go_wp2
  refine WpAt.seq (WpAt.of_wp ?_)
  go_wp2
  refine WpAt.seq (WpAt.of_wp ?_)
  go_wp2
  refine WpAt.seq (WpAt.of_wp ?_)
  go_wp2
  refine WpAt.seq (WpAt.seq (WpAt.of_wp ?_))
  go_wp2_with fail
  refine (BT.out _ _ _).mono ?_
  rintro e w1 ⟨rfl, rfl⟩
  go_wp2
  have hB0 : Below wa.heap.size wa ((((wa.alloc (.cells #[.slice none 0 0] 85)).alloc (.cells #[.bool false, .bool false, .bool false, .bool false, .bool false, .bool false, .bool false, .bool false, .bool false, .bool false, .bool false, .bool false, .bool false, .bool false, .bool false, .bool false, .bool false, .bool false, .bool false, .bool false, .bool false, .bool false, .bool false, .bool false, .bool false, .bool false, .bool false, .bool false, .bool false, .bool false, .bool false, .bool false, .bool false, .bool false, .bool false, .bool false] 133)).alloc (.cells #[.slice (some ⟨g, 0, none⟩) ts.length cap] 112)).alloc (.cells #[.string ⟨#[59]⟩] 9)) := ((((Below.refl _ wa).alloc (Nat.le_refl _) _).alloc (by simp) _).alloc (by simp; omega) _).alloc (by simp; omega) _
  have bO := (((Boxed.new wa 85 (.slice none 0 0)).alloc (.cells #[.bool false, .bool false, .bool false, .bool false, .bool false, .bool false, .bool false, .bool false, .bool false, .bool false, .bool false, .bool false, .bool false, .bool false, .bool false, .bool false, .bool false, .bool false, .bool false, .bool false, .bool false, .bool false, .bool false, .bool false, .bool false, .bool false, .bool false, .bool false, .bool false, .bool false, .bool false, .bool false, .bool false, .bool false, .bool false, .bool false] 133)).alloc (.cells #[.slice (some ⟨g, 0, none⟩) ts.length cap] 112)).alloc (.cells #[.string ⟨#[59]⟩] 9)
  have bT := ((Blk.new (wa.alloc (.cells #[.slice none 0 0] 85)) #[.bool false, .bool false, .bool false, .bool false, .bool false, .bool false, .bool false, .bool false, .bool false, .bool false, .bool false, .bool false, .bool false, .bool false, .bool false, .bool false, .bool false, .bool false, .bool false, .bool false, .bool false, .bool false, .bool false, .bool false, .bool false, .bool false, .bool false, .bool false, .bool false, .bool false, .bool false, .bool false, .bool false, .bool false, .bool false, .bool false] 133).alloc (.cells #[.slice (some ⟨g, 0, none⟩) ts.length cap] 112)).alloc (.cells #[.string ⟨#[59]⟩] 9)
  have bx1 := (Boxed.new ((wa.alloc (.cells #[.slice none 0 0] 85)).alloc (.cells #[.bool false, .bool false, .bool false, .bool false, .bool false, .bool false, .bool false, .bool false, .bool false, .bool false, .bool false, .bool false, .bool false, .bool false, .bool false, .bool false, .bool false, .bool false, .bool false, .bool false, .bool false, .bool false, .bool false, .bool false, .bool false, .bool false, .bool false, .bool false, .bool false, .bool false, .bool false, .bool false, .bool false, .bool false, .bool false, .bool false] 133)) 112 (.slice (some ⟨g, 0, none⟩) ts.length cap)).alloc (.cells #[.string ⟨#[59]⟩] 9)
  have bx2 := Boxed.new (((wa.alloc (.cells #[.slice none 0 0] 85)).alloc (.cells #[.bool false, .bool false, .bool false, .bool false, .bool false, .bool false, .bool false, .bool false, .bool false, .bool false, .bool false, .bool false, .bool false, .bool false, .bool false, .bool false, .bool false, .bool false, .bool false, .bool false, .bool false, .bool false, .bool false, .bool false, .bool false, .bool false, .bool false, .bool false, .bool false, .bool false, .bool false, .bool false, .bool false, .bool false, .bool false, .bool false] 133)).alloc (.cells #[.slice (some ⟨g, 0, none⟩) ts.length cap] 112)) 9 (.string ⟨#[59]⟩)
  simp only [World.size_alloc] at bT bx1 bx2
  obtain ⟨W0, hW0⟩ : ∃ W0, W0 = (((wa.alloc (.cells #[.slice none 0 0] 85)).alloc (.cells #[.bool false, .bool false, .bool false, .bool false, .bool false, .bool false, .bool false, .bool false, .bool false, .bool false, .bool false, .bool false, .bool false, .bool false, .bool false, .bool false, .bool false, .bool false, .bool false, .bool false, .bool false, .bool false, .bool false, .bool false, .bool false, .bool false, .bool false, .bool false, .bool false, .bool false, .bool false, .bool false, .bool false, .bool false, .bool false, .bool false] 133)).alloc (.cells #[.slice (some ⟨g, 0, none⟩) ts.length cap] 112)).alloc (.cells #[.string ⟨#[59]⟩] 9) := ⟨_, rfl⟩
  have hsz0 : W0.heap.size = wa.heap.size + 4 := by rw [hW0]; simp
  rw [← hW0] at hB0 bO bT bx1 bx2 ⊢
  clear hW0
  have hgs : g < wa.heap.size := HVA.out.2.2.2.1
  have hseq := between1_pan (wa.heap.size + 1 + 1) (wa.heap.size + 1 + 1 + 1) g 0 cap ⟨#[59]⟩ ts _ W0 (by omega) (by omega) bx1.cell bx2.cell (HVA.out.below hB0)
  rw [show bys ⟨#[59]⟩ = [59] from rfl, ← HXS.out] at hseq
  have hws : w.heap.size ≤ wa.heap.size := HBA.out.size
  have htk0 : Taken2 W0 (wa.heap.size + 1) ([] : List ((Nat × Nat) × Nat)) := ⟨_, bT, rfl, fun x y hx hy => by
    rw [show (#[.bool false, .bool false, .bool false, .bool false, .bool false, .bool false, .bool false, .bool false, .bool false, .bool false, .bool false, .bool false, .bool false, .bool false, .bool false, .bool false, .bool false, .bool false, .bool false, .bool false, .bool false, .bool false, .bool false, .bool false, .bool false, .bool false, .bool false, .bool false, .bool false, .bool false, .bool false, .bool false, .bool false, .bool false, .bool false, .bool false] : Array Value) = Array.replicate 36 (.bool false) from rfl, Array.getElem?_replicate, if_pos (by omega)]
    rfl⟩
  refine WpAt.block (WpAt.range Tryz.func53 (gf := 149) (lb := #[.pointer (some ⟨wa.heap.size + 1 + 1, 0, none⟩), .pointer (some ⟨wa.heap.size + 1 + 1 + 1, 0, none⟩)]) rfl (enters_of Tryz.func149 (by kernel_rfl) rfl)
    hseq (fun h k => h.trans k) (fun {X Y} h => fun k hk => h.below.block k ?klt) (fun _ => rfl)
    (fun k W => (∃ v ys, Boxed W wa.heap.size 85 v ∧ (rows.take k).mapM entryT = some ys ∧ unlike ys = true ∧ Taken2 W (wa.heap.size + 1) ys ∧ Lst wa.heap.size 135 3 ElEntry ys v W) ∧ Boxed W (wa.heap.size + 1 + 1) 112 (.slice (some ⟨g, 0, none⟩) ts.length cap) ∧ Boxed W (wa.heap.size + 1 + 1 + 1) 9 (.string ⟨#[59]⟩) ∧ Below wa.heap.size wa W) (fun W => RS = none ∧ Below wa.heap.size wa W)
    ?inv ?start (fun x => { tmps := #[.string t, undef, .slice none 0 0, .slice (some ⟨g, 0, none⟩) ts.length cap, .pointer (some ⟨wa.heap.size, 0, none⟩), .pointer (some ⟨wa.heap.size + 1, 0, none⟩), .slice (some ⟨g, cutA 0 cap x.1, none⟩) (x.2 - x.1) (cap - x.1), undef, .string t, .slice (some ⟨g, 0, none⟩) ts.length cap, .slice (some ⟨g, 0, none⟩) ts.length cap, .int .i64 (ts.length : Int), .bool false, .slice (some ⟨g, 0, none⟩) ts.length cap, .func (.func 149) #[] #[.pointer (some ⟨wa.heap.size + 1 + 1, 0, none⟩), .pointer (some ⟨wa.heap.size + 1 + 1 + 1, 0, none⟩)], .slice (some ⟨g, cutA 0 cap x.1, none⟩) (x.2 - x.1) (cap - x.1), undef, undef, undef, undef, undef, undef, undef, undef, undef, undef, undef, undef, undef, undef, undef, undef, undef, undef, undef, undef, undef], defers := [] }) ?assign ?body ?done ?pan) ?x1 ?x2
  case klt =>
    rw [hsz0]
    simp only [List.mem_cons, List.not_mem_nil, or_false] at hk
    omega
  case x1 => exact fun _ _ _ h => h
  case x2 => exact fun _ _ _ h => h
  case inv =>
    rintro k X Y ⟨⟨v, ys, hv, hm, hu, htk, hr⟩, hb1, hb2, hB⟩ hx
    exact ⟨⟨v, ys, boxed_xt hv hx, hm, hu, htk.kt (S := fun _ => True) (KT.of_xt hx) trivial, hr.kt (S := fun _ => True) (KT.of_xt hx) trivial (fun _ _ h => h)⟩, boxed_xt hb1 hx, boxed_xt hb2 hx, hB.trans (hx.below.mono (by omega))⟩
  case start => exact ⟨⟨_, [], bO, rfl, rfl, htk0, Lst.nil _ _ _ _ _⟩, bx1, bx2, hB0⟩
  case assign =>
    intro l x W K hK
    gi_wp2
    exact hK
  case body =>
    rintro l k x W hx ⟨⟨v, ys, hbv, hm, hu, htk, hlst⟩, hb1, hb2, hB⟩ hsz
    have hxm := hin x (List.mem_of_getElem? hx)
    have hrk : rows[k]? = some ((ts.take x.2).drop x.1) := by rw [← HRW.out, List.getElem?_map, hx]; rfl
    have TV := (HVA.out.below hB).cut x.1 x.2 hxm.1 hxm.2
    have TK := ht.cut x.1 x.2
    have EV := (HE.out.below HBA.out).below hB
    have TL : ((ts.take x.2).drop x.1).length ≤ 1024 := by simp; omega
    have hkx : k < xs.length := by
      rcases Nat.lt_or_ge k xs.length with q | q
      · exact q
      · rw [List.getElem?_eq_none q] at hx; cases hx
    have hyl : ys.length = k := by
      have := mapM_len hm
      have h2 : rows.length = xs.length := by rw [← HRW.out]; simp
      rw [this, List.length_take]; omega
    have hml : 1026 ≤ maxLen := by decide
    obtain ⟨R, hR⟩ : ∃ R, R = (ts.take x.2).drop x.1 := ⟨_, rfl⟩
    rw [← hR] at hrk TV TK TL
    obtain ⟨qa, hqa⟩ : ∃ qa, qa = cutA 0 cap x.1 := ⟨_, rfl⟩
    obtain ⟨qn, hqn⟩ : ∃ qn, qn = x.2 - x.1 := ⟨_, rfl⟩
    obtain ⟨qc, hqc⟩ : ∃ qc, qc = cap - x.1 := ⟨_, rfl⟩
    rw [← hqa, ← hqn, ← hqc] at TV
    simp only [← hqa, ← hqn, ← hqc]
    have HM := hide hm
    have HU := hide hu
    have HTK := hide htk
    have HR := hide hrk
    have HYL := hide hyl
    have HBW := hide hB
    have RR := hide (readEntry_any g qa qc R _ W TV)
    clear hxm hR hqa hqn hqc hm hrk hyl TV TK EV TL hu htk hB hx
    cases hf : entryT R with
    | none =>
      rw [hf] at RR
      have HF := hide hf
      clear hf
      gi_wp2_with fail
      refine ⟨trivial, CallsIn.inRound l ((callsIn_wide.2 RR.out).mono ?_)⟩
      rintro e v1 ⟨b1, rfl⟩
      have hno : RS = none := by rw [HRS.out, mapM_bad HR.out HF.out]; rfl
      exact ⟨rfl, rfl, (KeepsOthers.of_below b1).from _, hno, HBW.out.trans (b1.mono HBW.out.size)⟩
    | some y =>
      rw [hf] at RR
      obtain ⟨hy1, hy2, hy3⟩ := entryT_lt hf
      have HF := hide hf
      clear hf
      obtain ⟨⟨y1, y2⟩, y3⟩ := y
      dsimp only at hy1 hy2 hy3
      gi_wp2_with fail
      refine ⟨trivial, CallsIn.inRound l ((callsIn_wide.2 RR.out).mono ?_)⟩
      rintro e v1 ⟨b1, v', rfl, rfl⟩
      dsimp only
      have hxt : Xt W.heap.size W v1 := Xt.of_below b1 (Nat.le_refl _)
      have htk1 := HTK.out.kt (S := fun _ => True) (KT.of_xt hxt) trivial
      have hbv1 := boxed_xt hbv hxt
      obtain ⟨ck, fk⟩ := htk1.cell y1 y2 hy1 hy2
      have B1 := hide b1
      have HTK1 := hide htk1
      clear b1 htk1 RR
      have hlt1 : wa.heap.size + 1 < v1.heap.size := Nat.lt_of_lt_of_le (by have := (Array.getElem?_eq_some_iff.1 hb1).1; omega) B1.out.size
      have hnb : ¬ wa.heap.size + 1 = v1.heap.size := by omega
      have hnb2 : ¬ v1.heap.size = wa.heap.size + 1 := by omega
      have hi1 : (0 : Int) ≤ (y1 : Int) := by omega
      have hi2 : (y1 : Int) < 6 := by omega
      have hi3 : (0 : Int) ≤ (y2 : Int) := by omega
      have hi4 : (y2 : Int) < 6 := by omega
      obtain ⟨BB, hBB⟩ : ∃ BB, BB = (ys.any fun z => decide (z.1 = (y1, y2))) := ⟨_, rfl⟩
      rw [← hBB] at ck
      have BV := Blk.newAt v1 v1.heap.size rfl #[.int .i64 (y1 : Int), .int .i64 (y2 : Int), .int .i64 (y3 : Int)] 135
      have nc0 : (v1.alloc (.cells #[.int .i64 (y1 : Int), .int .i64 (y2 : Int), .int .i64 (y3 : Int)] 135)).cell? ⟨v1.heap.size, 0, none⟩ = some (.int .i64 (y1 : Int)) := BV.cell 0
      have nc1 : (v1.alloc (.cells #[.int .i64 (y1 : Int), .int .i64 (y2 : Int), .int .i64 (y3 : Int)] 135)).cell? ⟨v1.heap.size, 1, none⟩ = some (.int .i64 (y2 : Int)) := BV.cell 1
      have nct : (v1.alloc (.cells #[.int .i64 (y1 : Int), .int .i64 (y2 : Int), .int .i64 (y3 : Int)] 135)).cell? ⟨wa.heap.size + 1, y1 * 6 + y2, none⟩ = some (.bool BB) := (World.cell?_of_block (Below.heap_alloc _ _ _ hlt1)).trans ck
      have HBB := hide hBB
      clear hBB
      gi_wp2_with fail
      refine region_round (S := fun w' => w'.cell? ⟨v1.heap.size, 0, none⟩ = some (.int .i64 (y1 : Int)) ∧ w'.cell? ⟨v1.heap.size, 1, none⟩ = some (.int .i64 (y2 : Int)) ∧ w'.cell? ⟨wa.heap.size + 1, y1 * 6 + y2, none⟩ = some (.bool BB)) (by kernel_rfl) (by kernel_rfl) (fun ⟨_, _, h⟩ => h) ?_ (fun hHeld => ?_)
      · exact ⟨nc0, nc1, nct⟩
      refine wpAnyH_take (i := 0) (oi := Oper.mk (some 18) _ _ _ _ _) (v := .pointer (some ⟨v1.heap.size, 0, none⟩)) rfl (by kernel_rfl) (by kernel_rfl) (by kernel_rfl) (fun _ _ _ h => h) (Or.inl ⟨by rfl, ?_⟩) (by assumption) ?_
      · intro wX hSw
        (try dsimp only at hSw)
        go_simp
      simp only [Act.put, List.setIfInBounds_toArray, List.set_cons_succ, List.set_cons_zero]
      refine wpAnyH_take (i := 1) (oi := Oper.mk (some 19) _ _ _ _ _) (v := .int .i64 (y1 : Int)) rfl (by kernel_rfl) (by kernel_rfl) (by kernel_rfl) (fun _ _ _ h => h) (Or.inl ⟨by rfl, ?_⟩) (by assumption) ?_
      · intro wX hSw
        (try dsimp only at hSw)
        go_simp
      simp only [Act.put, List.setIfInBounds_toArray, List.set_cons_succ, List.set_cons_zero]
      refine wpAnyH_take (i := 2) (oi := Oper.mk (some 20) _ _ _ _ _) (v := .pointer (some ⟨v1.heap.size, 1, none⟩)) rfl (by kernel_rfl) (by kernel_rfl) (by kernel_rfl) (fun _ _ _ h => h) (Or.inl ⟨by rfl, ?_⟩) (by assumption) ?_
      · intro wX hSw
        (try dsimp only at hSw)
        go_simp
      simp only [Act.put, List.setIfInBounds_toArray, List.set_cons_succ, List.set_cons_zero]
      refine wpAnyH_take (i := 3) (oi := Oper.mk (some 21) _ _ _ _ _) (v := .int .i64 (y2 : Int)) rfl (by kernel_rfl) (by kernel_rfl) (by kernel_rfl) (fun _ _ _ h => h) (Or.inl ⟨by rfl, ?_⟩) (by assumption) ?_
      · intro wX hSw
        (try dsimp only at hSw)
        go_simp
      simp only [Act.put, List.setIfInBounds_toArray, List.set_cons_succ, List.set_cons_zero]
      refine wpAnyH_take (i := 4) (oi := Oper.mk (some 22) _ _ _ _ _) (v := .pointer (some ⟨wa.heap.size + 1, y1 * 6, none⟩)) rfl (by kernel_rfl) (by kernel_rfl) (by kernel_rfl) (fun _ _ _ h => h) (Or.inl ⟨by rfl, ?_⟩) (by assumption) ?_
      · intro wX hSw
        (try dsimp only at hSw)
        go_simp
      simp only [Act.put, List.setIfInBounds_toArray, List.set_cons_succ, List.set_cons_zero]
      refine wpAnyH_take (i := 5) (oi := Oper.mk (some 23) _ _ _ _ _) (v := .pointer (some ⟨wa.heap.size + 1, y1 * 6 + y2, none⟩)) rfl (by kernel_rfl) (by kernel_rfl) (by kernel_rfl) (fun _ _ _ h => h) (Or.inl ⟨by rfl, ?_⟩) (by assumption) ?_
      · intro wX hSw
        (try dsimp only at hSw)
        go_simp
      simp only [Act.put, List.setIfInBounds_toArray, List.set_cons_succ, List.set_cons_zero]
      refine wpAnyH_take (i := 6) (oi := Oper.mk (some 24) _ _ _ _ _) (v := .bool BB) rfl (by kernel_rfl) (by kernel_rfl) (by kernel_rfl) (fun _ _ _ h => h) (Or.inl ⟨by rfl, ?_⟩) (by assumption) ?_
      · intro wX hSw
        (try dsimp only at hSw)
        go_simp
      simp only [Act.put, List.setIfInBounds_toArray, List.set_cons_succ, List.set_cons_zero]
      refine wpAnyH_done (by kernel_rfl) ?_ _
      cases BB with
      | true =>
        gi_wp2
        have hno : RS = none := by
          rw [HRS.out]
          exact rules_twice (mapM_snoc HR.out HM.out HF.out) (by rw [unlike_snoc, HU.out]; show (true && !(ys.any fun z => decide (z.1 = (y1, y2)))) = false; rw [← HBB.out]; rfl)
        exact ⟨rfl, rfl, (((KeepsOthers.of_below B1.out).trans (Go.KeepsOthers.alloc _ _)).trans (Go.KeepsOthers.drew _)).from _, hno, ((HBW.out.trans (B1.out.mono HBW.out.size)).alloc (Nat.le_trans HBW.out.size B1.out.size) _).drew⟩
      | false =>
        gi_wp2_with fail
        refine region_round (S := fun w' => w'.cell? ⟨v1.heap.size, 0, none⟩ = some (.int .i64 (y1 : Int)) ∧ w'.cell? ⟨v1.heap.size, 1, none⟩ = some (.int .i64 (y2 : Int))) (by kernel_rfl) (by kernel_rfl) (fun ⟨_, _, h⟩ => h) ?_ (fun hHeld => ?_)
        · exact ⟨nc0, nc1⟩
        refine wpAnyH_take (i := 0) (oi := Oper.mk (some 26) _ _ _ _ _) (v := .pointer (some ⟨v1.heap.size, 0, none⟩)) rfl (by kernel_rfl) (by kernel_rfl) (by kernel_rfl) (fun _ _ _ h => h) (Or.inl ⟨by rfl, ?_⟩) (by assumption) ?_
        · intro wX hSw
          (try dsimp only at hSw)
          go_simp
        simp only [Act.put, List.setIfInBounds_toArray, List.set_cons_succ, List.set_cons_zero]
        refine wpAnyH_take (i := 1) (oi := Oper.mk (some 27) _ _ _ _ _) (v := .int .i64 (y1 : Int)) rfl (by kernel_rfl) (by kernel_rfl) (by kernel_rfl) (fun _ _ _ h => h) (Or.inl ⟨by rfl, ?_⟩) (by assumption) ?_
        · intro wX hSw
          (try dsimp only at hSw)
          go_simp
        simp only [Act.put, List.setIfInBounds_toArray, List.set_cons_succ, List.set_cons_zero]
        refine wpAnyH_take (i := 2) (oi := Oper.mk (some 28) _ _ _ _ _) (v := .pointer (some ⟨v1.heap.size, 1, none⟩)) rfl (by kernel_rfl) (by kernel_rfl) (by kernel_rfl) (fun _ _ _ h => h) (Or.inl ⟨by rfl, ?_⟩) (by assumption) ?_
        · intro wX hSw
          (try dsimp only at hSw)
          go_simp
        simp only [Act.put, List.setIfInBounds_toArray, List.set_cons_succ, List.set_cons_zero]
        refine wpAnyH_take (i := 3) (oi := Oper.mk (some 29) _ _ _ _ _) (v := .int .i64 (y2 : Int)) rfl (by kernel_rfl) (by kernel_rfl) (by kernel_rfl) (fun _ _ _ h => h) (Or.inl ⟨by rfl, ?_⟩) (by assumption) ?_
        · intro wX hSw
          (try dsimp only at hSw)
          go_simp
        simp only [Act.put, List.setIfInBounds_toArray, List.set_cons_succ, List.set_cons_zero]
        refine wpAnyH_take (i := 4) (oi := Oper.mk (some 30) _ _ _ _ _) (v := .pointer (some ⟨wa.heap.size + 1, y1 * 6, none⟩)) rfl (by kernel_rfl) (by kernel_rfl) (by kernel_rfl) (fun _ _ _ h => h) (Or.inl ⟨by rfl, ?_⟩) (by assumption) ?_
        · intro wX hSw
          (try dsimp only at hSw)
          go_simp
        simp only [Act.put, List.setIfInBounds_toArray, List.set_cons_succ, List.set_cons_zero]
        refine wpAnyH_take (i := 5) (oi := Oper.mk (some 31) _ _ _ _ _) (v := .pointer (some ⟨wa.heap.size + 1, y1 * 6 + y2, none⟩)) rfl (by kernel_rfl) (by kernel_rfl) (by kernel_rfl) (fun _ _ _ h => h) (Or.inl ⟨by rfl, ?_⟩) (by assumption) ?_
        · intro wX hSw
          (try dsimp only at hSw)
          go_simp
        simp only [Act.put, List.setIfInBounds_toArray, List.set_cons_succ, List.set_cons_zero]
        refine wpAnyH_ready (rs := [6]) (by kernel_rfl) (by simp) ?_
        refine AllReadyH.cons (o := Oper.mk none _ _ _ _ _) rfl (fun K hK => ?_) AllReadyH.nil
        go_simp
        obtain ⟨css, hcs1, hcs2, hcs3⟩ := hlst
        have hws1 : wa.heap.size ≤ v1.heap.size := Nat.le_trans HBW.out.size B1.out.size
        obtain ⟨W2, hW2⟩ : ∃ W2, W2 = ((v1.setCell ⟨wa.heap.size + 1, y1 * 6 + y2, none⟩ (.bool true)).alloc (.cells #[.int .i64 (y1 : Int), .int .i64 (y2 : Int), .int .i64 (y3 : Int)] 135)).drew.drew := ⟨_, rfl⟩
        have hsz2 : W2.heap.size = v1.heap.size + 1 := by rw [hW2]; simp [World.setCell]
        have kdr : KT (fun _ => True) ((v1.setCell ⟨wa.heap.size + 1, y1 * 6 + y2, none⟩ (.bool true)).alloc (.cells #[.int .i64 (y1 : Int), .int .i64 (y2 : Int), .int .i64 (y3 : Int)] 135)) W2 := by rw [hW2]; exact KT.of_below ((Below.refl _ _).drew.drew)
        have k12 : KT (fun ty => ty ≠ 133) v1 W2 := by
          rw [hW2]
          exact ((kt_put1 HTK1.out.choose_spec.1 _ _).trans (KT.of_below ((Below.refl _ _).alloc (Nat.le_refl _) _))).trans (KT.of_below ((Below.refl _ _).drew.drew))
        have htk2 : Taken2 W2 (wa.heap.size + 1) (ys ++ [((y1, y2), y3)]) :=
          ((Taken2.more HTK1.out ((y1, y2), y3) hy1 hy2).kt (S := fun _ => True) (KT.of_below ((Below.refl _ _).alloc (Nat.le_refl _) _)) trivial).kt kdr trivial
        have hbv2 := Boxed.kt hbv1 k12 (by decide)
        have hrow2 := ownsRow_kt (ownsRow_xt hcs2 hxt) k12 (by decide)
        have BV2 : Blk W2 v1.heap.size #[.int .i64 (y1 : Int), .int .i64 (y2 : Int), .int .i64 (y3 : Int)] 135 := by
          have h := Blk.new (v1.setCell ⟨wa.heap.size + 1, y1 * 6 + y2, none⟩ (.bool true)) #[.int .i64 (y1 : Int), .int .i64 (y2 : Int), .int .i64 (y3 : Int)] 135
          rw [show (v1.setCell ⟨wa.heap.size + 1, y1 * 6 + y2, none⟩ (.bool true)).heap.size = v1.heap.size from by simp [World.setCell]] at h
          exact kdr.same _ _ _ _ h trivial
        have e0 := BV2.cell 0
        have e1 := BV2.cell 1
        have e2 := BV2.cell 2
        have cv2 := hbv2.cell
        simp only [List.getElem?_toArray, List.getElem?_cons_zero, List.getElem?_cons_succ] at e0 e1 e2
        have hnew : ∀ j u, [Value.int .i64 (y1 : Int), .int .i64 (y2 : Int), .int .i64 (y3 : Int)][j]? = some u → (W2.alloc (.cells #[.int .i64 (y1 : Int), .int .i64 (y2 : Int), .int .i64 (y3 : Int)] 135)).cell? ((⟨v1.heap.size + 1, 0, none⟩ : Addr).add j) = some u := by
          have := World.news_of_block (heap_alloc_new W2 (.cells #[.int .i64 (y1 : Int), .int .i64 (y2 : Int), .int .i64 (y3 : Int)] 135))
          rw [hsz2] at this
          exact this
        have hszw : wa.heap.size ≤ W2.heap.size := by omega
        have hszw2 : wa.heap.size ≤ (W2.alloc (.cells #[.int .i64 (y1 : Int), .int .i64 (y2 : Int), .int .i64 (y3 : Int)] 135)).heap.size := by rw [World.size_alloc]; omega
        have HC1 := hide hcs1
        have HC3 := hide hcs3
        have HK2 := hide (And.intro k12 htk2)
        have HRO2 := hide hrow2
        have HBV2 := hide hbv2
        have HW2 := hide hW2
        have hlen2 : ys.length = k := by exact HYL.out
        rw [← hW2]
        clear hcs1 hcs2 hcs3 k12 htk2 hW2 hrow2 kdr BV2 nc0 nc1 nct BV ck fk
        refine hK.out _ _ ⟨e0, e1⟩ (fun hHeld => ?_)
        clear hK K hHeld
        refine wpAnyH_done (by kernel_rfl) ?_ _
        gi_wp2_with (gi_at_builtin; refine wpListIn_append_own _ rfl _ _ 85 rfl wa.heap.size 135 i0 (.agg #[.int .i64 0, .int .i64 0, .int .i64 0]) 3 24 Tryz.underlying85 hi hz0 hz1 hz2 rfl (by decide) v ys.length css.flatten rfl (HRO2.out.alloc _) ⟨v1.heap.size + 1, 0, none⟩ 1 1 [.int .i64 (y1 : Int), .int .i64 (y2 : Int), .int .i64 (y3 : Int)] rfl rfl hnew (by simp [Value.oneCell']) (by omega) (by omega) hszw2 ?_; intro v9 w9 hown9 hgrow9 _; obtain ⟨g9, cap9, rfl⟩ := ownsRow_succ hown9; obtain ⟨g1, g2, g3, g4, g5, g6⟩ := Lst.grown (S := fun ty => ty ≠ 135 ∧ ty ≠ 85) (El := ElEntry) (x := ((y1, y2), y3)) HBV2.out (by decide) hszw (Nat.le_refl _) rfl (fun _ => Iff.rfl) (fun _ _ _ _ _ h => h) rfl css HC1.out HRO2.out HC3.out hown9 hgrow9; have cc9 := g1.cell; have ff9 := g1.frozen; have GG := hide (And.intro g2 (And.intro g3 (And.intro g4 (And.intro g5 g6)))); clear g1 g2 g3 g4 g5 g6 hown9 hgrow9)
        rw [HYL.out] at GG
        obtain ⟨g2, g3, g4, g5, g6⟩ := GG.out
        have hk1 : KT (fun ty => ty ≠ 133 ∧ ty ≠ 135 ∧ ty ≠ 85) W _ := ((KT.of_xt hxt).trans ⟨HK2.out.1.size, fun k cs ty fz h hs => HK2.out.1.same k cs ty fz h hs.1⟩).trans ⟨g6.size, fun k cs ty fz h hs => g6.same k cs ty fz h hs.2⟩
        have hb1' := Boxed.kt hb1 hk1 (by decide)
        have hb2' := Boxed.kt hb2 hk1 (by decide)
        have hbb : Below wa.heap.size W W2 := by
          rw [HW2.out]
          exact (((B1.out.mono HBW.out.size).setCell (p := ⟨wa.heap.size + 1, y1 * 6 + y2, none⟩) (by simp) _).alloc (by simp [World.setCell]; omega) _).drew.drew
        have hko : Go.KeepsOthers W W2 := by
          rw [HW2.out]
          exact ((((KeepsOthers.of_below B1.out).trans (Go.KeepsOthers.setCell _ _ _)).trans (Go.KeepsOthers.alloc _ _)).trans (Go.KeepsOthers.drew _)).trans (Go.KeepsOthers.drew _)
        have hB' := (HBW.out.trans hbb).trans g5
        refine ⟨(hko.trans g4).from _, ?_, ⟨_, g2, _, mapM_snoc HR.out HM.out HF.out, by rw [unlike_snoc, HU.out]; show (true && !(ys.any fun z => decide (z.1 = (y1, y2)))) = true; rw [← HBB.out]; rfl, HK2.out.2.kt g6 (by decide), g3⟩, hb1', hb2', hB'⟩
        intro j hj
        simp only [List.mem_cons, List.not_mem_nil, or_false] at hj
        rcases hj with rfl | rfl | rfl
        · exact (g5.block _ hgs).trans (hbb.block _ hgs)
        · exact (show _ = _ from hb1').trans (show _ = _ from hb1).symm
        · exact (show _ = _ from hb2').trans (show _ = _ from hb2).symm
  case done =>
    rintro D W hst hD ⟨⟨v, ys, hbv, hm, hu, _, hr⟩, _, _, hB⟩ hK
    have hc := hbv.cell
    refine WpAt.seq (WpAt.of_wp ?_)
    go_wp2
    refine WpAt.of_wp ?_
    go_wp2
    refine ⟨by simp, .inl ⟨_, _, rfl, run_takeDeferred hK, ?_⟩⟩
    have hrl : rows.length = xs.length := by rw [← HRW.out]; simp
    rw [← hrl, List.take_length] at hm
    have hyes : RS = some ys := by rw [HRS.out, hm]; unfold onlyU; exact if_pos hu
    refine ⟨_, results_tmp rfl _ _ _, Ans.ret hyes (below_take (HBA.out.trans (hB.mono hws)) (by omega) hK) ?_⟩
    exact (hr.low hws (fun _ _ h => h)).kt (S := fun _ => True) (KT.of_xt (Xt.putObj (B := 0) _ (Nat.zero_le _) hK rfl)) trivial (fun _ _ h => h)
  case pan =>
    rintro D W hD (⟨hn, hB⟩ | ⟨hst, _⟩) hK
    · refine leave_pan hK (Ans.panic hn (below_take (HBA.out.trans (hB.mono hws)) (by omega) hK))
    · cases hst

end Go.Proofs.YtkbciljfjijclaaGreatDoor

namespace Go.Proofs.YtkbciljfjijclaaGreatDoor
open Go.RowKit

set_option maxHeartbeats 1000000 in
theorem readEntries_any (t : ByteArray) (w : World) (htt : t.size ≤ 1024) (he : Evs w) :
    Calls Tryz.prog 53 #[.string t] w (Ans (entriesT (bys t)) (fun ys v' W' => Lst w.heap.size 135 3 ElEntry ys v' W') w) := by
  have hbl : (bys t).length ≤ 1024 := by rw [bys_len]; exact htt
  have hTL := toks_len (bys t)
  have hTK := toks_tks (bys t) hbl
  obtain ⟨RS, hRS⟩ : ∃ RS, RS = entriesT (bys t) := ⟨_, rfl⟩
  rw [← hRS]
  by_cases h2 : (toks (bys t)).2 = true
  · have HRS : Hid (RS = none) := by show RS = none; rw [hRS]; unfold entriesT; rw [if_pos h2]
    have GA := hide (gather_any t w htt)
    rw [show gatT (bys t) = none from by unfold gatT; rw [if_pos h2]] at GA
    clear hRS h2 hTL hTK hbl he
    refine calls_pan Tryz.func53 rfl ?_
    simp only [Tryz.ntmps53, List.size_toArray, List.length_cons, List.length_nil, Nat.reduceAdd, Nat.reduceSub, Array.replicate_succ, Array.replicate_zero, List.push_toArray, List.append_toArray, List.nil_append, List.cons_append]
    refine WpAt.seq (WpAt.of_wp ?_)
    go_wp2
    refine WpAt.seq (WpAt.of_wp ?_)
    go_wp2_with fail
    refine GA.out.mono ?_
    rintro e wa ⟨hba, rfl⟩
    have HBA := hide hba
    clear hba
    go_wp2
    exact Ans.panic HRS.out HBA.out
  · have hga : gatT (bys t) = some (toks (bys t)).1 := by unfold gatT; rw [if_neg h2]
    by_cases h1 : (toks (bys t)).1 = []
    · have HRS : Hid (RS = some []) := by show RS = some []; rw [hRS]; unfold entriesT; rw [if_neg h2, if_pos h1]
      have GA := hide (gather_any t w htt)
      rw [hga, h1] at GA
      clear hRS h2 hTL hTK hbl he hga h1
      refine calls_pan Tryz.func53 rfl ?_
      simp only [Tryz.ntmps53, List.size_toArray, List.length_cons, List.length_nil, Nat.reduceAdd, Nat.reduceSub, Array.replicate_succ, Array.replicate_zero, List.push_toArray, List.append_toArray, List.nil_append, List.cons_append]
      refine WpAt.seq (WpAt.of_wp ?_)
      go_wp2
      refine WpAt.seq (WpAt.of_wp ?_)
      go_wp2_with fail
      refine GA.out.mono ?_
      rintro e wa ⟨hba, v, rfl, hown⟩
      obtain ⟨a, c, rfl⟩ : ∃ a c, v = .slice a 0 c := by
        rcases hown.2 with ⟨h, _⟩ | ⟨g, cap, cur, h, _⟩
        · exact ⟨_, _, h⟩
        · exact ⟨_, _, h⟩
      have HBA := hide hba
      clear hba hown
      go_wp2
      refine WpAt.seq (WpAt.of_wp ?_)
      go_wp2
      refine ⟨_, results_tmp rfl _ _ _, Ans.ret HRS.out HBA.out ?_⟩
      exact Lst.nil _ _ _ _ _
    · exact readEntries_rows _ t w RS (by rw [hRS]; unfold entriesT; rw [if_neg h2, if_neg h1]) hga htt h1 hTK he (by omega)

def echeckT (s : List UInt8) : Int := if 1024 < s.length then 91 else match entriesT s with | none => 90 | some _ => 0

theorem CheckRanges_long (t : ByteArray) (w : World) (h : 1024 < t.size) : Calls Tryz.prog 20 #[.string t] w fun e w' => e = .returned (.int .i64 91) ∧ Below w.heap.size w w' := by
  have hmf : ∀ (fn : Fn) (first cap : Array Value) (w : World), (Instr.makeFunc fn first cap).run Tryz.prog w = .ok (.func fn first cap) w := fun _ _ _ _ => rfl
  have h' : 1024 < (t.size : Int) := by omega
  go_enter_defers Tryz.func20, Tryz.ntmps20
  go_wp2
  refine leaves_cons (f := 57) (args := #[.pointer (some ⟨w.heap.size, 0, none⟩)]) (by simp) (by simp [go_sem]) ?_
  refine (idle_CheckRanges ⟨w.heap.size, 0, none⟩ _).mono ?_
  rintro e u' w'' ⟨rfl, rfl, rfl⟩
  simp [Leaves, settle, results, Tryz.results20, go_sem]
  exact (Below.refl _ _).alloc (Nat.le_refl _) _

theorem CheckRanges_no (t : ByteArray) (w : World) (h : t.size ≤ 1024) (he : Evs w) (hr : entriesT (bys t) = none) : Calls Tryz.prog 20 #[.string t] w fun e w' => e = .returned (.int .i64 90) ∧ Below w.heap.size w w' := by
  have hmf : ∀ (fn : Fn) (first cap : Array Value) (w : World), (Instr.makeFunc fn first cap).run Tryz.prog w = .ok (.func fn first cap) w := fun _ _ _ _ => rfl
  have h' : ¬ 1024 < (t.size : Int) := by omega
  have HB : Hid (Below w.heap.size w (w.alloc (.cells #[.int .i64 0] 24))) := ((Below.refl _ _).alloc (Nat.le_refl _) _)
  have BB := hide (Blk.newAt w w.heap.size rfl #[.int .i64 0] 24)
  have RR := hide (readEntries_any t (w.alloc (.cells #[.int .i64 0] 24)) h (he.below HB.out))
  rw [hr] at RR
  clear h he hr
  go_enter_defers Tryz.func20, Tryz.ntmps20
  go_wp2_with fail
  refine RR.out.mono ?_
  rintro e w1 ⟨hb, rfl⟩
  have BB1 := Blk.on BB hb
  have HB1 := hide (HB.out.trans (hb.mono HB.out.size))
  clear hb RR
  have c0 := BB1.out.cell 0
  have f0 := BB1.out.free 0
  go_wp2
  refine leaves_cons (f := 57) (args := #[.pointer (some ⟨w.heap.size, 0, none⟩)]) (by simp) (by simp [go_sem]) ?_
  refine (catch_CheckRanges ⟨w.heap.size, 0, none⟩ _ _ _ [] _ c0 f0).mono ?_
  rintro e u' w'' ⟨rfl, rfl, rfl⟩
  have hc9 := World.cell?_setCell_same' w1 ⟨w.heap.size, 0, none⟩ (.int .i64 90) (by rw [c0]; rfl)
  simp [Leaves, settle, results, Tryz.results20, go_sem, hc9]
  exact HB1.out.setCell (p := ⟨w.heap.size, 0, none⟩) (Nat.le_refl _) _

theorem CheckRanges_yes (t : ByteArray) (w : World) (h : t.size ≤ 1024) (he : Evs w) (hr : (entriesT (bys t)).isSome = true) : Calls Tryz.prog 20 #[.string t] w fun e w' => e = .returned (.int .i64 0) ∧ Below w.heap.size w w' := by
  have hmf : ∀ (fn : Fn) (first cap : Array Value) (w : World), (Instr.makeFunc fn first cap).run Tryz.prog w = .ok (.func fn first cap) w := fun _ _ _ _ => rfl
  have h' : ¬ 1024 < (t.size : Int) := by omega
  have HB : Hid (Below w.heap.size w (w.alloc (.cells #[.int .i64 0] 24))) := ((Below.refl _ _).alloc (Nat.le_refl _) _)
  have BB := hide (Blk.newAt w w.heap.size rfl #[.int .i64 0] 24)
  have RR := hide (readEntries_any t (w.alloc (.cells #[.int .i64 0] 24)) h (he.below HB.out))
  obtain ⟨ys, hy⟩ := Option.isSome_iff_exists.1 hr
  rw [hy] at RR
  clear h he hr hy
  go_enter_defers Tryz.func20, Tryz.ntmps20
  go_wp2_with fail
  refine RR.out.mono ?_
  rintro e w1 ⟨hb, v, rfl, _⟩
  have BB1 := Blk.on BB hb
  have HB1 := hide (HB.out.trans (hb.mono HB.out.size))
  clear hb RR
  have c0 := BB1.out.cell 0
  have f0 := BB1.out.free 0
  simp only [List.getElem?_toArray, List.getElem?_cons_zero] at c0
  go_wp2
  refine leaves_cons (f := 57) (args := #[.pointer (some ⟨w.heap.size, 0, none⟩)]) (by simp) (by simp [go_sem]) ?_
  refine (idle_CheckRanges ⟨w.heap.size, 0, none⟩ _).mono ?_
  rintro e u' w'' ⟨rfl, rfl, rfl⟩
  have hc9 := World.cell?_setCell_same' w1 ⟨w.heap.size, 0, none⟩ (.int .i64 0) (by rw [c0]; rfl)
  simp [Leaves, settle, results, Tryz.results20, go_sem, hc9]
  exact HB1.out.setCell (p := ⟨w.heap.size, 0, none⟩) (Nat.le_refl _) _

theorem CheckRanges_any (t : ByteArray) (w : World) (he : Evs w) : Calls Tryz.prog 20 #[.string t] w fun e w' => e = .returned (.int .i64 (echeckT (bys t))) ∧ Below w.heap.size w w' := by
  unfold echeckT
  rw [bys_len]
  by_cases h : 1024 < t.size
  · rw [if_pos h]; exact CheckRanges_long t w h
  · rw [if_neg h]
    cases hr : entriesT (bys t) with
    | none => exact CheckRanges_no t w (by omega) he hr
    | some ys => exact CheckRanges_yes t w (by omega) he (by rw [hr]; rfl)


theorem isCat_T (c : Int) (w : World) (h : 0 ≤ c ∧ c < 6) : Calls Tryz.prog 54 #[.int .i64 c] w fun e w' => e = .returned (.bool true) ∧ w = w' := by
  obtain ⟨h1, h2⟩ := h
  have h3 : decide (0 ≤ c) = true := decide_eq_true h1
  have h4 : decide (c < 6) = true := decide_eq_true h2
  go_enter Tryz.func54, Tryz.ntmps54
  go_wp2
  go_ret
  exact ⟨rfl, rfl⟩

theorem isCat_F (c : Int) (w : World) (h : ¬ (0 ≤ c ∧ c < 6)) : Calls Tryz.prog 54 #[.int .i64 c] w fun e w' => e = .returned (.bool false) ∧ w = w' := by
  by_cases h1 : 0 ≤ c
  · have h2 : ¬ c < 6 := fun h2 => h ⟨h1, h2⟩
    have h3 : decide (0 ≤ c) = true := decide_eq_true h1
    have h4 : decide (c < 6) = false := decide_eq_false h2
    clear h
    go_enter Tryz.func54, Tryz.ntmps54
    go_wp2
    go_ret
    exact ⟨rfl, rfl⟩
  · have h3 : decide (0 ≤ c) = false := decide_eq_false h1
    clear h
    go_enter Tryz.func54, Tryz.ntmps54
    go_wp2
    go_ret
    exact ⟨rfl, rfl⟩

def entryH (a b : Nat) : List ((Nat × Nat) × Nat) → Nat
  | [] => b
  | y :: ys => if y.1 = (a, b) then y.2 else entryH a b ys

theorem entryH_hit (a b : Nat) : ∀ (xs : List ((Nat × Nat) × Nat)) (k : Nat) (y : (Nat × Nat) × Nat), xs[k]? = some y → (∀ (j : Nat) u, j < k → xs[j]? = some u → ¬ u.1 = (a, b)) → y.1 = (a, b) → entryH a b xs = y.2
  | [], k, y, h, _, _ => by simp at h
  | u :: xs, 0, y, h, _, hy => by
    simp only [List.getElem?_cons_zero, Option.some.injEq] at h
    subst h
    rw [entryH, if_pos hy]
  | u :: xs, k + 1, y, h, hn, hy => by
    rw [entryH, if_neg (hn 0 u (by omega) rfl)]
    exact entryH_hit a b xs k y (by simpa using h) (fun j u' hj hu => hn (j + 1) u' (by omega) (by simpa using hu)) hy

theorem entryH_none (a b : Nat) : ∀ (xs : List ((Nat × Nat) × Nat)), (∀ (j : Nat) u, xs[j]? = some u → ¬ u.1 = (a, b)) → entryH a b xs = b
  | [], _ => rfl
  | u :: xs, hn => by
    rw [entryH, if_neg (hn 0 u rfl)]
    exact entryH_none a b xs (fun j u' hu => hn (j + 1) u' (by simpa using hu))

set_option maxRecDepth 100000 in
set_option maxHeartbeats 2000000 in
theorem entryOf_any (base : Nat) (xs : List ((Nat × Nat) × Nat)) (ao : Option Addr) (n cap a b : Nat) (w : World) (hls : Lst base 135 3 ElEntry xs (.slice ao n cap) w) :
    Calls Tryz.prog 55 #[.slice ao n cap, .int .i64 (a : Int), .int .i64 (b : Int)] w fun e' w' => e' = .returned (.int .i64 (entryH a b xs : Int)) ∧ Below w.heap.size w w' := by
  obtain ⟨hn, hnm, hat⟩ := hls.at
  have hnm2 : maxLen ≤ 9223372036854775807 := by decide
  have HAT := hide hat
  have HN := hide hn
  obtain ⟨ANS, hANS⟩ : ∃ ANS, ANS = entryH a b xs := ⟨_, rfl⟩
  rw [← hANS]
  have HANS := hide hANS
  have hnb : n ≤ 9223372036854775807 := by omega
  clear hls hn hnm hat hANS hnm2
  go_enter Tryz.func55, Tryz.ntmps55
  go_wp2
  go_loopw [11] (fun p wr => ∃ k : Nat, k ≤ n ∧ p = .int .i64 (k : Int) ∧ Hid (∀ (j : Nat) u, j < k → xs[j]? = some u → ¬ u.1 = (a, b)) ∧ Hid (Below w.heap.size w wr)) (fun p _ => n - (intOf p).toNat)
  case atStart => exact ⟨0, Nat.zero_le _, rfl, fun j u h _ => by omega, Below.refl _ _⟩
  case round =>
    obtain ⟨k, hk, rfl, HNO, HBW⟩ := hrel
    by_cases hlt : k < n
    · have hlt' : (k : Int) < (n : Int) := by omega
      obtain ⟨x, hx⟩ : ∃ x, xs[k]? = some x := ⟨_, List.getElem?_eq_getElem (by have := HN.out; omega)⟩
      obtain ⟨g, c, rfl, hg, hcl, hel, hcell⟩ := HAT.out k x hx
      obtain rfl : c = _ := hel
      have d0 := (HBW.out.cell (p := ⟨g, k * 3 + 0, none⟩) hg).trans (hcell 0 _ rfl)
      have d1 := (HBW.out.cell (p := ⟨g, k * 3 + 1, none⟩) hg).trans (hcell 1 _ rfl)
      have d2 := (HBW.out.cell (p := ⟨g, k * 3 + 2, none⟩) hg).trans (hcell 2 _ rfl)
      rw [Nat.add_zero] at d0
      obtain ⟨⟨x1, x2⟩, x3⟩ := x
      dsimp only at d0 d1 d2
      have HX := hide hx
      have HB2 : Hid (Below w.heap.size w (wr.alloc (.cells #[.int .i64 (x1 : Int), .int .i64 (x2 : Int), .int .i64 (x3 : Int)] 135))) := HBW.out.alloc HBW.out.size _
      clear hx hcell hcl hg HAT
      by_cases h1 : x1 = a
      · subst h1
        have q1 : ((x1 : Int) == (x1 : Int)) = true := by simp
        by_cases h2 : x2 = b
        · subst h2
          have q2 : ((x2 : Int) == (x2 : Int)) = true := by simp
          have HYES : Hid (ANS = x3) := by
            show ANS = x3
            rw [HANS.out]
            exact entryH_hit _ _ xs k ((x1, x2), x3) HX.out HNO.out rfl
          go_wp2
          go_ret
          exact ⟨by rw [HYES.out]; rfl, HB2.out⟩
        · have q2 : ((x2 : Int) == (b : Int)) = false := beq_eq_false_iff_ne.2 (by omega)
          have HNO2 : Hid (∀ (j : Nat) u, j < k + 1 → xs[j]? = some u → ¬ u.1 = (x1, b)) := by
            intro j u hj hu
            by_cases hj' : j < k
            · exact HNO.out j u hj' hu
            · obtain rfl : j = k := by omega
              rw [HX.out, Option.some.injEq] at hu
              subst hu
              simp [h2]
          clear h2
          go_wp2
          exact ⟨⟨k + 1, by omega, by go_num, HNO2, HB2⟩, by simp [intOf]; omega⟩
      · have q1 : ((x1 : Int) == (a : Int)) = false := beq_eq_false_iff_ne.2 (by omega)
        have HNO2 : Hid (∀ (j : Nat) u, j < k + 1 → xs[j]? = some u → ¬ u.1 = (a, b)) := by
          intro j u hj hu
          by_cases hj' : j < k
          · exact HNO.out j u hj' hu
          · obtain rfl : j = k := by omega
            rw [HX.out, Option.some.injEq] at hu
            subst hu
            simp [h1]
        clear h1
        go_wp2
        exact ⟨⟨k + 1, by omega, by go_num, HNO2, HB2⟩, by simp [intOf]; omega⟩
    · obtain rfl : k = n := by omega
      have hlt' : ¬ (k : Int) < (k : Int) := by omega
      have HNOT : Hid (ANS = b) := by
        show ANS = b
        rw [HANS.out]
        refine entryH_none _ _ xs (fun j u hu => HNO.out j u ?_ hu)
        rcases Nat.lt_or_ge j xs.length with q | q
        · have := HN.out; omega
        · rw [List.getElem?_eq_none q] at hu; cases hu
      clear HAT
      go_wp2
      go_ret
      exact ⟨by rw [HNOT.out]; rfl, HBW.out⟩

end Go.Proofs.YtkbciljfjijclaaGreatDoor

namespace Go.Proofs.YtkbciljfjijclaaGreatDoor
open Go.RowKit

def rpickT (s : List UInt8) (a b : Int) : Int × Int := if 1024 < s.length then (0, 91) else match entriesT s with
  | none => (0, 90)
  | some l => if (0 ≤ a ∧ a < 6) ∧ (0 ≤ b ∧ b < 6) then ((entryH a.toNat b.toNat l : Int), 0) else (0, 1)

theorem PickRange_long (s : ByteArray) (a b : Int) (w : World) (h : 1024 < s.size) : Calls Tryz.prog 18 #[.string s, .int .i64 a, .int .i64 b] w fun e' w' => e' = .returned (.tuple #[.int .i64 0, .int .i64 91]) ∧ Below w.heap.size w w' := by
  have hmf : ∀ (fn : Fn) (first cap : Array Value) (w : World), (Instr.makeFunc fn first cap).run Tryz.prog w = .ok (.func fn first cap) w := fun _ _ _ _ => rfl
  have h' : 1024 < (s.size : Int) := by omega
  go_enter_defers Tryz.func18, Tryz.ntmps18
  go_wp2
  refine leaves_cons (f := 52) (args := #[.pointer (some ⟨w.heap.size, 0, none⟩), .pointer (some ⟨w.heap.size + 1, 0, none⟩)]) (by simp) (by simp [go_sem]) ?_
  refine (idle_PickRange ⟨w.heap.size, 0, none⟩ ⟨w.heap.size + 1, 0, none⟩ _).mono ?_
  rintro e' u' w'' ⟨rfl, rfl, rfl⟩
  simp [Leaves, settle, results, Tryz.results18, go_sem]
  exact ((Below.refl _ _).alloc (Nat.le_refl _) _).alloc (by simp) _

theorem PickRange_no (s : ByteArray) (a b : Int) (w : World) (h : s.size ≤ 1024) (he : Evs w) (hr : entriesT (bys s) = none) : Calls Tryz.prog 18 #[.string s, .int .i64 a, .int .i64 b] w fun e' w' => e' = .returned (.tuple #[.int .i64 0, .int .i64 90]) ∧ Below w.heap.size w w' := by
  have hmf : ∀ (fn : Fn) (first cap : Array Value) (w : World), (Instr.makeFunc fn first cap).run Tryz.prog w = .ok (.func fn first cap) w := fun _ _ _ _ => rfl
  have h' : ¬ 1024 < (s.size : Int) := by omega
  have HB : Hid (Below w.heap.size w ((w.alloc (.cells #[.int .i64 0] 3)).alloc (.cells #[.int .i64 0] 24))) := ((Below.refl _ _).alloc (Nat.le_refl _) _).alloc (by simp) _
  have BC := hide (Blk.alloc (Blk.newAt w w.heap.size rfl #[.int .i64 0] 3) (.cells #[.int .i64 0] 24))
  have BE := hide (Blk.newAt (w.alloc (.cells #[.int .i64 0] 3)) (w.heap.size + 1) (by simp) #[.int .i64 0] 24)
  have RR := hide (readEntries_any s ((w.alloc (.cells #[.int .i64 0] 3)).alloc (.cells #[.int .i64 0] 24)) h (he.below HB.out))
  rw [hr] at RR
  clear h he hr
  go_enter_defers Tryz.func18, Tryz.ntmps18
  go_wp2_with fail
  refine RR.out.mono ?_
  rintro e' w1 ⟨hb, rfl⟩
  have BC1 := Blk.on BC hb
  have BE1 := Blk.on BE hb
  have HB1 := hide (HB.out.trans (hb.mono HB.out.size))
  clear hb BC BE HB
  have cc0 := BC1.out.cell 0
  have ce0 := BE1.out.cell 0
  simp only [List.getElem?_toArray, List.getElem?_cons_zero] at cc0 ce0
  have fc0 := BC1.out.free 0
  have fe0 := BE1.out.free 0
  clear RR
  go_wp2
  refine leaves_cons (f := 52) (args := #[.pointer (some ⟨w.heap.size, 0, none⟩), .pointer (some ⟨w.heap.size + 1, 0, none⟩)]) (by simp) (by simp [go_sem]) ?_
  refine (catch_PickRange ⟨w.heap.size, 0, none⟩ ⟨w.heap.size + 1, 0, none⟩ _ _ _ _ [] _ (by simp) cc0 fc0 ce0 fe0).mono ?_
  rintro e' u' w'' ⟨rfl, rfl, rfl⟩
  have p1 := blk_setC BC1.out 0 (.int .i64 0)
  have p2 := Blk.other p1 (a := ⟨w.heap.size + 1, 0, none⟩) (by simp) (.int .i64 90)
  have p3 := blk_setC (Blk.other BE1.out (a := ⟨w.heap.size, 0, none⟩) (by simp) (.int .i64 0)) 0 (.int .i64 90)
  have q2 := p2.cell 0
  have q3 := p3.cell 0
  simp at q2 q3
  simp [Leaves, settle, results, Tryz.results18, go_sem, q2, q3]
  exact (HB1.out.setCell (p := ⟨w.heap.size, 0, none⟩) (Nat.le_refl _) _).setCell (p := ⟨w.heap.size + 1, 0, none⟩) (by simp) _

theorem PickRange_a (s : ByteArray) (a b : Int) (w : World) (h : s.size ≤ 1024) (he : Evs w) (l : List ((Nat × Nat) × Nat)) (hr : entriesT (bys s) = some l) (ha : ¬ (0 ≤ a ∧ a < 6)) : Calls Tryz.prog 18 #[.string s, .int .i64 a, .int .i64 b] w fun e' w' => e' = .returned (.tuple #[.int .i64 0, .int .i64 1]) ∧ Below w.heap.size w w' := by
  have hmf : ∀ (fn : Fn) (first cap : Array Value) (w : World), (Instr.makeFunc fn first cap).run Tryz.prog w = .ok (.func fn first cap) w := fun _ _ _ _ => rfl
  have h' : ¬ 1024 < (s.size : Int) := by omega
  have HB : Hid (Below w.heap.size w ((w.alloc (.cells #[.int .i64 0] 3)).alloc (.cells #[.int .i64 0] 24))) := ((Below.refl _ _).alloc (Nat.le_refl _) _).alloc (by simp) _
  have BC := hide (Blk.alloc (Blk.newAt w w.heap.size rfl #[.int .i64 0] 3) (.cells #[.int .i64 0] 24))
  have BE := hide (Blk.newAt (w.alloc (.cells #[.int .i64 0] 3)) (w.heap.size + 1) (by simp) #[.int .i64 0] 24)
  have RR := hide (readEntries_any s ((w.alloc (.cells #[.int .i64 0] 3)).alloc (.cells #[.int .i64 0] 24)) h (he.below HB.out))
  rw [hr] at RR
  have K0 := hide (fun X => isCat_F a X ha)
  clear ha
  clear h he hr
  go_enter_defers Tryz.func18, Tryz.ntmps18
  go_wp2_with fail
  refine RR.out.mono ?_
  rintro e' w1 ⟨hb, va, rfl, _⟩
  have BC1 := Blk.on BC hb
  have BE1 := Blk.on BE hb
  have HB1 := hide (HB.out.trans (hb.mono HB.out.size))
  clear hb BC BE HB
  clear RR
  go_wp2_with fail
  refine (K0.out _).mono ?_
  rintro e' w' ⟨rfl, rfl⟩
  have cc0 := BC1.out.cell 0
  have ce0 := BE1.out.cell 0
  simp only [List.getElem?_toArray, List.getElem?_cons_zero] at cc0 ce0
  have fc0 := BC1.out.free 0
  have fe0 := BE1.out.free 0
  go_wp2
  refine leaves_cons (f := 52) (args := #[.pointer (some ⟨w.heap.size, 0, none⟩), .pointer (some ⟨w.heap.size + 1, 0, none⟩)]) (by simp) (by simp [go_sem]) ?_
  refine (idle_PickRange ⟨w.heap.size, 0, none⟩ ⟨w.heap.size + 1, 0, none⟩ _).mono ?_
  rintro e' u' w'' ⟨rfl, rfl, rfl⟩
  have p1 := blk_setC BC1.out 0 (.int .i64 0)
  have p2 := Blk.other p1 (a := ⟨w.heap.size + 1, 0, none⟩) (by simp) (.int .i64 1)
  have p3 := blk_setC (Blk.other BE1.out (a := ⟨w.heap.size, 0, none⟩) (by simp) (.int .i64 0)) 0 (.int .i64 1)
  have q2 := p2.cell 0
  have q3 := p3.cell 0
  simp at q2 q3
  simp [Leaves, settle, results, Tryz.results18, go_sem, q2, q3]
  exact (HB1.out.setCell (p := ⟨w.heap.size, 0, none⟩) (Nat.le_refl _) _).setCell (p := ⟨w.heap.size + 1, 0, none⟩) (by simp) _

theorem PickRange_b (s : ByteArray) (a b : Int) (w : World) (h : s.size ≤ 1024) (he : Evs w) (l : List ((Nat × Nat) × Nat)) (hr : entriesT (bys s) = some l) (ha : 0 ≤ a ∧ a < 6) (hb : ¬ (0 ≤ b ∧ b < 6)) : Calls Tryz.prog 18 #[.string s, .int .i64 a, .int .i64 b] w fun e' w' => e' = .returned (.tuple #[.int .i64 0, .int .i64 1]) ∧ Below w.heap.size w w' := by
  have hmf : ∀ (fn : Fn) (first cap : Array Value) (w : World), (Instr.makeFunc fn first cap).run Tryz.prog w = .ok (.func fn first cap) w := fun _ _ _ _ => rfl
  have h' : ¬ 1024 < (s.size : Int) := by omega
  have HB : Hid (Below w.heap.size w ((w.alloc (.cells #[.int .i64 0] 3)).alloc (.cells #[.int .i64 0] 24))) := ((Below.refl _ _).alloc (Nat.le_refl _) _).alloc (by simp) _
  have BC := hide (Blk.alloc (Blk.newAt w w.heap.size rfl #[.int .i64 0] 3) (.cells #[.int .i64 0] 24))
  have BE := hide (Blk.newAt (w.alloc (.cells #[.int .i64 0] 3)) (w.heap.size + 1) (by simp) #[.int .i64 0] 24)
  have RR := hide (readEntries_any s ((w.alloc (.cells #[.int .i64 0] 3)).alloc (.cells #[.int .i64 0] 24)) h (he.below HB.out))
  rw [hr] at RR
  have K0 := hide (fun X => isCat_T a X ha)
  have K1 := hide (fun X => isCat_F b X hb)
  clear ha hb
  clear h he hr
  go_enter_defers Tryz.func18, Tryz.ntmps18
  go_wp2_with fail
  refine RR.out.mono ?_
  rintro e' w1 ⟨hb, va, rfl, _⟩
  have BC1 := Blk.on BC hb
  have BE1 := Blk.on BE hb
  have HB1 := hide (HB.out.trans (hb.mono HB.out.size))
  clear hb BC BE HB
  clear RR
  go_wp2_with fail
  refine (K0.out _).mono ?_
  rintro e' w' ⟨rfl, rfl⟩
  go_wp2_with fail
  refine (K1.out _).mono ?_
  rintro e' w' ⟨rfl, rfl⟩
  have cc0 := BC1.out.cell 0
  have ce0 := BE1.out.cell 0
  simp only [List.getElem?_toArray, List.getElem?_cons_zero] at cc0 ce0
  have fc0 := BC1.out.free 0
  have fe0 := BE1.out.free 0
  go_wp2
  refine leaves_cons (f := 52) (args := #[.pointer (some ⟨w.heap.size, 0, none⟩), .pointer (some ⟨w.heap.size + 1, 0, none⟩)]) (by simp) (by simp [go_sem]) ?_
  refine (idle_PickRange ⟨w.heap.size, 0, none⟩ ⟨w.heap.size + 1, 0, none⟩ _).mono ?_
  rintro e' u' w'' ⟨rfl, rfl, rfl⟩
  have p1 := blk_setC BC1.out 0 (.int .i64 0)
  have p2 := Blk.other p1 (a := ⟨w.heap.size + 1, 0, none⟩) (by simp) (.int .i64 1)
  have p3 := blk_setC (Blk.other BE1.out (a := ⟨w.heap.size, 0, none⟩) (by simp) (.int .i64 0)) 0 (.int .i64 1)
  have q2 := p2.cell 0
  have q3 := p3.cell 0
  simp at q2 q3
  simp [Leaves, settle, results, Tryz.results18, go_sem, q2, q3]
  exact (HB1.out.setCell (p := ⟨w.heap.size, 0, none⟩) (Nat.le_refl _) _).setCell (p := ⟨w.heap.size + 1, 0, none⟩) (by simp) _

theorem PickRange_yes (s : ByteArray) (a b : Nat) (w : World) (h : s.size ≤ 1024) (he : Evs w) (l : List ((Nat × Nat) × Nat)) (hr : entriesT (bys s) = some l) (ha : a < 6) (hb : b < 6) : Calls Tryz.prog 18 #[.string s, .int .i64 (a : Int), .int .i64 (b : Int)] w fun e' w' => e' = .returned (.tuple #[.int .i64 (entryH a b l : Int), .int .i64 0]) ∧ Below w.heap.size w w' := by
  have hmf : ∀ (fn : Fn) (first cap : Array Value) (w : World), (Instr.makeFunc fn first cap).run Tryz.prog w = .ok (.func fn first cap) w := fun _ _ _ _ => rfl
  have h' : ¬ 1024 < (s.size : Int) := by omega
  have HB : Hid (Below w.heap.size w ((w.alloc (.cells #[.int .i64 0] 3)).alloc (.cells #[.int .i64 0] 24))) := ((Below.refl _ _).alloc (Nat.le_refl _) _).alloc (by simp) _
  have BC := hide (Blk.alloc (Blk.newAt w w.heap.size rfl #[.int .i64 0] 3) (.cells #[.int .i64 0] 24))
  have BE := hide (Blk.newAt (w.alloc (.cells #[.int .i64 0] 3)) (w.heap.size + 1) (by simp) #[.int .i64 0] 24)
  have RR := hide (readEntries_any s ((w.alloc (.cells #[.int .i64 0] 3)).alloc (.cells #[.int .i64 0] 24)) h (he.below HB.out))
  rw [hr] at RR
  have K0 := hide (fun X => isCat_T (a : Int) X (by omega))
  have K1 := hide (fun X => isCat_T (b : Int) X (by omega))
  obtain ⟨R, hR⟩ : ∃ R, R = entryH a b l := ⟨_, rfl⟩
  rw [← hR]
  have HRR := hide hR
  clear h he hr hR ha hb
  go_enter_defers Tryz.func18, Tryz.ntmps18
  go_wp2_with fail
  refine RR.out.mono ?_
  rintro e' w1 ⟨hb, va, rfl, hls⟩
  obtain ⟨sa, sn, sc, rfl⟩ := Lst.slice hls
  have FF := hide (entryOf_any _ l sa sn sc a b w1 hls)
  rw [← HRR.out] at FF
  have BC1 := Blk.on BC hb
  have BE1 := Blk.on BE hb
  have HB1 := hide (HB.out.trans (hb.mono HB.out.size))
  clear hb BC BE HB
  clear RR hls HRR
  go_wp2_with fail
  refine (K0.out _).mono ?_
  rintro e' w' ⟨rfl, rfl⟩
  go_wp2_with fail
  refine (K1.out _).mono ?_
  rintro e' w' ⟨rfl, rfl⟩
  go_wp2_with fail
  refine FF.out.mono ?_
  rintro e' w2 ⟨rfl, hb⟩
  have BC2 := Blk.on BC1 hb
  have BE2 := Blk.on BE1 hb
  have HB2 := hide (HB1.out.trans (hb.mono HB1.out.size))
  clear hb BC1 BE1 HB1
  have cc0 := BC2.out.cell 0
  have ce0 := BE2.out.cell 0
  simp only [List.getElem?_toArray, List.getElem?_cons_zero] at cc0 ce0
  have fc0 := BC2.out.free 0
  have fe0 := BE2.out.free 0
  clear FF
  go_wp2
  refine leaves_cons (f := 52) (args := #[.pointer (some ⟨w.heap.size, 0, none⟩), .pointer (some ⟨w.heap.size + 1, 0, none⟩)]) (by simp) (by simp [go_sem]) ?_
  refine (idle_PickRange ⟨w.heap.size, 0, none⟩ ⟨w.heap.size + 1, 0, none⟩ _).mono ?_
  rintro e' u' w'' ⟨rfl, rfl, rfl⟩
  have p1 := blk_setC BC2.out 0 (.int .i64 (R : Int))
  have p2 := Blk.other p1 (a := ⟨w.heap.size + 1, 0, none⟩) (by simp) (.int .i64 0)
  have p3 := blk_setC (Blk.other BE2.out (a := ⟨w.heap.size, 0, none⟩) (by simp) (.int .i64 (R : Int))) 0 (.int .i64 0)
  have q2 := p2.cell 0
  have q3 := p3.cell 0
  simp at q2 q3
  simp [Leaves, settle, results, Tryz.results18, go_sem, q2, q3]
  exact (HB2.out.setCell (p := ⟨w.heap.size, 0, none⟩) (Nat.le_refl _) _).setCell (p := ⟨w.heap.size + 1, 0, none⟩) (by simp) _

theorem PickRange_any (s : ByteArray) (a b : Int) (w : World) (he : Evs w) : Calls Tryz.prog 18 #[.string s, .int .i64 a, .int .i64 b] w fun e' w' => e' = .returned (.tuple #[.int .i64 (rpickT (bys s) a b).1, .int .i64 (rpickT (bys s) a b).2]) ∧ Below w.heap.size w w' := by
  unfold rpickT
  rw [bys_len]
  by_cases h : 1024 < s.size
  · rw [if_pos h]; exact PickRange_long s a b w h
  · rw [if_neg h]
    cases hr : entriesT (bys s) with
    | none => exact PickRange_no s a b w (by omega) he hr
    | some l =>
      dsimp only
      by_cases ha : 0 ≤ a ∧ a < 6
      · by_cases hb : 0 ≤ b ∧ b < 6
        · rw [if_pos ⟨ha, hb⟩]
          obtain ⟨a', rfl⟩ := Int.eq_ofNat_of_zero_le ha.1
          obtain ⟨b', rfl⟩ := Int.eq_ofNat_of_zero_le hb.1
          exact PickRange_yes s a' b' w (by omega) he l hr (by omega) (by omega)
        · rw [if_neg (fun h => hb h.2)]; exact PickRange_b s a b w (by omega) he l hr ha hb
      · rw [if_neg (fun h => ha h.1)]; exact PickRange_a s a b w (by omega) he l hr ha

end Go.Proofs.YtkbciljfjijclaaGreatDoor

namespace Go.Proofs.YtkbciljfjijclaaGreatDoor
open Go.RowKit

theorem digB_al {l : List UInt8} (h : l.all (fun b => decide (48 ≤ b.toNat) && decide (b.toNat ≤ 57)) = true) : DigB l := by
  intro k hk
  unfold byt
  rw [List.getElem?_eq_getElem hk]
  have := List.all_eq_true.1 h _ (List.getElem_mem hk)
  simpa using this

theorem aw_r1 : rulesT [111, 110, 101, 58, 32, 110, 32, 37, 32, 49, 48, 32, 61, 32, 49, 32, 97, 110, 100, 32, 110, 32, 37, 32, 49, 48, 48, 32, 33, 61, 32, 49, 49] = some [(1, [[⟨110, 10, false, [(1, 1)]⟩, ⟨110, 100, true, [(11, 11)]⟩]])] := by kernel_rfl
theorem aw_r2 : rulesT [111, 110, 101, 58, 32, 110, 32, 61, 32, 49] = some [(1, [[⟨110, 0, false, [(1, 1)]⟩]])] := by kernel_rfl
theorem aw_m1 : MayO ⟨[50, 49], 0, 0, [48], [48], 0⟩ := ⟨⟨by decide, by decide⟩, ⟨by decide, by decide⟩, ⟨by decide, by decide⟩, .inr ⟨by decide, by decide, by decide, digB_al rfl⟩, .inl rfl, .inl rfl, fun _ => rfl, fun h => absurd rfl h⟩
theorem aw_m2 : ¬ MayO ⟨[], 0, 0, [], [], 0⟩ := fun h => by
  rcases h.2.2.2.1 with g | g
  · exact absurd (show ([] : List UInt8) = [48] from g) (by decide)
  · exact g.1 rfl
theorem aw_p1 : pickT [111, 110, 101, 58, 32, 110, 32, 37, 32, 49, 48, 32, 61, 32, 49, 32, 97, 110, 100, 32, 110, 32, 37, 32, 49, 48, 48, 32, 33, 61, 32, 49, 49] ⟨[50, 49], 0, 0, [48], [48], 0⟩ = (1, 0) := by
  unfold pickT
  rw [if_neg (by decide), aw_r1]
  dsimp only
  rw [if_pos aw_m1]
  kernel_rfl
theorem aw_p2 : pickT [111, 110, 101, 58, 32, 110, 32, 61, 32, 49] ⟨[], 0, 0, [], [], 0⟩ = (0, 92) := by
  unfold pickT
  rw [if_neg (by decide), aw_r2]
  dsimp only
  rw [if_neg aw_m2]
theorem aw_q1 : rpickT [111, 110, 101, 43, 111, 116, 104, 101, 114, 58, 32, 102, 101, 119] 1 5 = (3, 0) := by kernel_rfl
theorem aw_q2 : rpickT [] 6 0 = (0, 1) := by kernel_rfl
theorem aw_c1 : rcheckT [111, 116, 104, 101, 114, 58, 32, 110, 32, 61, 32, 49] = 90 := by kernel_rfl
theorem aw_c2 : rcheckT [] = 0 := by kernel_rfl
theorem aw_e1 : echeckT [111, 110, 101, 58, 32, 111, 110, 101] = 90 := by kernel_rfl
theorem aw_e2 : echeckT [] = 0 := by kernel_rfl

set_option maxRecDepth 100000 in
set_option maxHeartbeats 2000000 in
theorem awake09 (w : World) (he : Evs w) : Calls Tryz.prog 15 #[] w fun e w' => e = .returned (.bool true) ∧ Below w.heap.size w w' := by
  have HE := hide he
  have HB0 : Hid (Below w.heap.size w (w.alloc (.cells #[.string ⟨#[50, 49]⟩, .int .i64 0, .int .i64 0, .string ⟨#[48]⟩, .string ⟨#[48]⟩, .int .i64 0] 37))) := (Below.refl _ _).alloc (Nat.le_refl _) _
  have K1 := hide (fun X (h : Below w.heap.size w X) => Pick_any ⟨#[111, 110, 101, 58, 32, 110, 32, 37, 32, 49, 48, 32, 61, 32, 49, 32, 97, 110, 100, 32, 110, 32, 37, 32, 49, 48, 48, 32, 33, 61, 32, 49, 49]⟩ ⟨#[50, 49]⟩ 0 0 ⟨#[48]⟩ ⟨#[48]⟩ 0 X (HE.out.below h))
  rw [show bys ⟨#[111, 110, 101, 58, 32, 110, 32, 37, 32, 49, 48, 32, 61, 32, 49, 32, 97, 110, 100, 32, 110, 32, 37, 32, 49, 48, 48, 32, 33, 61, 32, 49, 49]⟩ = [111, 110, 101, 58, 32, 110, 32, 37, 32, 49, 48, 32, 61, 32, 49, 32, 97, 110, 100, 32, 110, 32, 37, 32, 49, 48, 48, 32, 33, 61, 32, 49, 49] from rfl, show bys ⟨#[50, 49]⟩ = [50, 49] from rfl, show bys ⟨#[48]⟩ = [48] from rfl, aw_p1] at K1
  have K2 := hide (fun X (h : Below w.heap.size w X) => Pick_any ⟨#[111, 110, 101, 58, 32, 110, 32, 61, 32, 49]⟩ ⟨#[]⟩ 0 0 ⟨#[]⟩ ⟨#[]⟩ 0 X (HE.out.below h))
  rw [show bys ⟨#[111, 110, 101, 58, 32, 110, 32, 61, 32, 49]⟩ = [111, 110, 101, 58, 32, 110, 32, 61, 32, 49] from rfl, show bys ⟨#[]⟩ = [] from rfl, aw_p2] at K2
  have K3 := hide (fun X (h : Below w.heap.size w X) => PickRange_any ⟨#[111, 110, 101, 43, 111, 116, 104, 101, 114, 58, 32, 102, 101, 119]⟩ 1 5 X (HE.out.below h))
  rw [show bys ⟨#[111, 110, 101, 43, 111, 116, 104, 101, 114, 58, 32, 102, 101, 119]⟩ = [111, 110, 101, 43, 111, 116, 104, 101, 114, 58, 32, 102, 101, 119] from rfl, aw_q1] at K3
  have K4 := hide (fun X (h : Below w.heap.size w X) => PickRange_any ⟨#[]⟩ 6 0 X (HE.out.below h))
  rw [show bys ⟨#[]⟩ = [] from rfl, aw_q2] at K4
  have K5 := hide (fun X (h : Below w.heap.size w X) => Check_any ⟨#[111, 116, 104, 101, 114, 58, 32, 110, 32, 61, 32, 49]⟩ X (HE.out.below h))
  rw [show bys ⟨#[111, 116, 104, 101, 114, 58, 32, 110, 32, 61, 32, 49]⟩ = [111, 116, 104, 101, 114, 58, 32, 110, 32, 61, 32, 49] from rfl, aw_c1] at K5
  have K6 := hide (fun X (h : Below w.heap.size w X) => Check_any ⟨#[]⟩ X (HE.out.below h))
  rw [show bys ⟨#[]⟩ = [] from rfl, aw_c2] at K6
  have K7 := hide (fun X (h : Below w.heap.size w X) => CheckRanges_any ⟨#[111, 110, 101, 58, 32, 111, 110, 101]⟩ X (HE.out.below h))
  rw [show bys ⟨#[111, 110, 101, 58, 32, 111, 110, 101]⟩ = [111, 110, 101, 58, 32, 111, 110, 101] from rfl, aw_e1] at K7
  have K8 := hide (fun X (h : Below w.heap.size w X) => CheckRanges_any ⟨#[]⟩ X (HE.out.below h))
  rw [show bys ⟨#[]⟩ = [] from rfl, aw_e2] at K8
  clear he HE
  go_enter Tryz.func15, Tryz.ntmps15
  go_wp2_with fail
  refine (K1.out _ HB0.out).mono ?_
  rintro e w1 ⟨rfl, hb⟩
  have HB1 := hide (HB0.out.trans (hb.mono HB0.out.size))
  clear hb K1 HB0
  go_wp2_with fail
  refine (K2.out _ HB1.out).mono ?_
  rintro e w2 ⟨rfl, hb⟩
  have HB2 := hide (HB1.out.trans (hb.mono HB1.out.size))
  clear hb K2 HB1
  go_wp2_with fail
  refine (K3.out _ HB2.out).mono ?_
  rintro e w3 ⟨rfl, hb⟩
  have HB3 := hide (HB2.out.trans (hb.mono HB2.out.size))
  clear hb K3 HB2
  go_wp2_with fail
  refine (K4.out _ HB3.out).mono ?_
  rintro e w4 ⟨rfl, hb⟩
  have HB4 := hide (HB3.out.trans (hb.mono HB3.out.size))
  clear hb K4 HB3
  go_wp2_with fail
  refine (K5.out _ HB4.out).mono ?_
  rintro e w5 ⟨rfl, hb⟩
  have HB5 := hide (HB4.out.trans (hb.mono HB4.out.size))
  clear hb K5 HB4
  go_wp2_with fail
  refine (K6.out _ HB5.out).mono ?_
  rintro e w6 ⟨rfl, hb⟩
  have HB6 := hide (HB5.out.trans (hb.mono HB5.out.size))
  clear hb K6 HB5
  go_wp2_with fail
  refine (K7.out _ HB6.out).mono ?_
  rintro e w7 ⟨rfl, hb⟩
  have HB7 := hide (HB6.out.trans (hb.mono HB6.out.size))
  clear hb K7 HB6
  go_wp2_with fail
  refine (K8.out _ HB7.out).mono ?_
  rintro e w8 ⟨rfl, hb⟩
  have HB8 := hide (HB7.out.trans (hb.mono HB7.out.size))
  clear hb K8 HB7
  go_wp2
  go_ret
  exact ⟨rfl, HB8.out⟩

end Go.Proofs.YtkbciljfjijclaaGreatDoor

namespace Go.Proofs.YtkbciljfjijclaaGreatDoor
open Go.RowKit

end Go.Proofs.YtkbciljfjijclaaGreatDoor

namespace Go.Proofs.YtkbciljfjijclaaGreatDoor
open Go.RowKit

def wordsT : List Tok := [[122, 101, 114, 111], [111, 110, 101], [116, 119, 111], [102, 101, 119], [109, 97, 110, 121], [111, 116, 104, 101, 114]]
def catZ (t : Tok) : Int := match catT t with | some n => (n : Int) | none => -1

theorem cat_none (t : Tok) (h : ∀ j, j < 6 → wordsT[j]? ≠ some t) : catZ t = -1 := by
  have e : catT t = none := by
    unfold catT
    rw [if_neg (fun e => h 0 (by omega) (by rw [e]; rfl)), if_neg (fun e => h 1 (by omega) (by rw [e]; rfl)), if_neg (fun e => h 2 (by omega) (by rw [e]; rfl)), if_neg (fun e => h 3 (by omega) (by rw [e]; rfl)), if_neg (fun e => h 4 (by omega) (by rw [e]; rfl)), if_neg (fun e => h 5 (by omega) (by rw [e]; rfl))]
  unfold catZ
  rw [e]

set_option maxRecDepth 100000 in
theorem rCategory_any (s : ByteArray) (w : World) : Calls Tryz.prog 110 #[.string s] w fun e w' => e = .returned (.int .i64 (catZ (bys s))) ∧ Below w.heap.size w w' := by
  have HB : Hid (Below w.heap.size w (w.alloc (.cells #[.string ⟨#[122, 101, 114, 111]⟩, .string ⟨#[111, 110, 101]⟩, .string ⟨#[116, 119, 111]⟩, .string ⟨#[102, 101, 119]⟩, .string ⟨#[109, 97, 110, 121]⟩, .string ⟨#[111, 116, 104, 101, 114]⟩] 9))) := (Below.refl _ _).alloc (Nat.le_refl _) _
  go_enter Tryz.func110, Tryz.ntmps110
  go_wp2
  go_loopw [4] (fun p wr => ∃ k : Nat, k ≤ 6 ∧ p = .int .i64 (k : Int) ∧ wr = w.alloc (.cells #[.string ⟨#[122, 101, 114, 111]⟩, .string ⟨#[111, 110, 101]⟩, .string ⟨#[116, 119, 111]⟩, .string ⟨#[102, 101, 119]⟩, .string ⟨#[109, 97, 110, 121]⟩, .string ⟨#[111, 116, 104, 101, 114]⟩] 9) ∧ Hid (∀ j, j < k → wordsT[j]? ≠ some (bys s))) (fun p _ => 6 - (intOf p).toNat)
  case atStart => exact ⟨0, by omega, rfl, rfl, fun j h => by omega⟩
  case round =>
    obtain ⟨k, hk, rfl, rfl, HN⟩ := hrel
    obtain rfl | rfl | rfl | rfl | rfl | rfl | rfl : k = 0 ∨ k = 1 ∨ k = 2 ∨ k = 3 ∨ k = 4 ∨ k = 5 ∨ k = 6 := by omega
    · by_cases hs : bys s = [122, 101, 114, 111]
      · obtain rfl : s = ⟨#[122, 101, 114, 111]⟩ := by have := mk_bys s; rw [hs] at this; exact this.symm
        clear hs HN
        go_wp2
        go_ret
        exact ⟨rfl, HB.out⟩
      · have hq : (s.toList == [122, 101, 114, 111]) = false := by rw [ByteArray.toList_eq]; exact beq_eq_false_iff_ne.2 hs
        have hq2 : ([122, 101, 114, 111] == s.toList) = false := by rw [ByteArray.toList_eq]; exact beq_eq_false_iff_ne.2 (fun e => hs e.symm)
        have HN1 : Hid (∀ j, j < 0 + 1 → wordsT[j]? ≠ some (bys s)) := by
          intro j hj
          by_cases h : j < 0
          · exact HN.out j h
          · obtain rfl : j = 0 := by omega
            exact fun e => hs (Option.some.inj e).symm
        clear hs HN
        go_wp2
        exact ⟨⟨1, by omega, by go_num, trivial, HN1⟩, by simp [intOf]⟩
    · by_cases hs : bys s = [111, 110, 101]
      · obtain rfl : s = ⟨#[111, 110, 101]⟩ := by have := mk_bys s; rw [hs] at this; exact this.symm
        clear hs HN
        go_wp2
        go_ret
        exact ⟨rfl, HB.out⟩
      · have hq : (s.toList == [111, 110, 101]) = false := by rw [ByteArray.toList_eq]; exact beq_eq_false_iff_ne.2 hs
        have hq2 : ([111, 110, 101] == s.toList) = false := by rw [ByteArray.toList_eq]; exact beq_eq_false_iff_ne.2 (fun e => hs e.symm)
        have HN1 : Hid (∀ j, j < 1 + 1 → wordsT[j]? ≠ some (bys s)) := by
          intro j hj
          by_cases h : j < 1
          · exact HN.out j h
          · obtain rfl : j = 1 := by omega
            exact fun e => hs (Option.some.inj e).symm
        clear hs HN
        go_wp2
        exact ⟨⟨2, by omega, by go_num, trivial, HN1⟩, by simp [intOf]⟩
    · by_cases hs : bys s = [116, 119, 111]
      · obtain rfl : s = ⟨#[116, 119, 111]⟩ := by have := mk_bys s; rw [hs] at this; exact this.symm
        clear hs HN
        go_wp2
        go_ret
        exact ⟨rfl, HB.out⟩
      · have hq : (s.toList == [116, 119, 111]) = false := by rw [ByteArray.toList_eq]; exact beq_eq_false_iff_ne.2 hs
        have hq2 : ([116, 119, 111] == s.toList) = false := by rw [ByteArray.toList_eq]; exact beq_eq_false_iff_ne.2 (fun e => hs e.symm)
        have HN1 : Hid (∀ j, j < 2 + 1 → wordsT[j]? ≠ some (bys s)) := by
          intro j hj
          by_cases h : j < 2
          · exact HN.out j h
          · obtain rfl : j = 2 := by omega
            exact fun e => hs (Option.some.inj e).symm
        clear hs HN
        go_wp2
        exact ⟨⟨3, by omega, by go_num, trivial, HN1⟩, by simp [intOf]⟩
    · by_cases hs : bys s = [102, 101, 119]
      · obtain rfl : s = ⟨#[102, 101, 119]⟩ := by have := mk_bys s; rw [hs] at this; exact this.symm
        clear hs HN
        go_wp2
        go_ret
        exact ⟨rfl, HB.out⟩
      · have hq : (s.toList == [102, 101, 119]) = false := by rw [ByteArray.toList_eq]; exact beq_eq_false_iff_ne.2 hs
        have hq2 : ([102, 101, 119] == s.toList) = false := by rw [ByteArray.toList_eq]; exact beq_eq_false_iff_ne.2 (fun e => hs e.symm)
        have HN1 : Hid (∀ j, j < 3 + 1 → wordsT[j]? ≠ some (bys s)) := by
          intro j hj
          by_cases h : j < 3
          · exact HN.out j h
          · obtain rfl : j = 3 := by omega
            exact fun e => hs (Option.some.inj e).symm
        clear hs HN
        go_wp2
        exact ⟨⟨4, by omega, by go_num, trivial, HN1⟩, by simp [intOf]⟩
    · by_cases hs : bys s = [109, 97, 110, 121]
      · obtain rfl : s = ⟨#[109, 97, 110, 121]⟩ := by have := mk_bys s; rw [hs] at this; exact this.symm
        clear hs HN
        go_wp2
        go_ret
        exact ⟨rfl, HB.out⟩
      · have hq : (s.toList == [109, 97, 110, 121]) = false := by rw [ByteArray.toList_eq]; exact beq_eq_false_iff_ne.2 hs
        have hq2 : ([109, 97, 110, 121] == s.toList) = false := by rw [ByteArray.toList_eq]; exact beq_eq_false_iff_ne.2 (fun e => hs e.symm)
        have HN1 : Hid (∀ j, j < 4 + 1 → wordsT[j]? ≠ some (bys s)) := by
          intro j hj
          by_cases h : j < 4
          · exact HN.out j h
          · obtain rfl : j = 4 := by omega
            exact fun e => hs (Option.some.inj e).symm
        clear hs HN
        go_wp2
        exact ⟨⟨5, by omega, by go_num, trivial, HN1⟩, by simp [intOf]⟩
    · by_cases hs : bys s = [111, 116, 104, 101, 114]
      · obtain rfl : s = ⟨#[111, 116, 104, 101, 114]⟩ := by have := mk_bys s; rw [hs] at this; exact this.symm
        clear hs HN
        go_wp2
        go_ret
        exact ⟨rfl, HB.out⟩
      · have hq : (s.toList == [111, 116, 104, 101, 114]) = false := by rw [ByteArray.toList_eq]; exact beq_eq_false_iff_ne.2 hs
        have hq2 : ([111, 116, 104, 101, 114] == s.toList) = false := by rw [ByteArray.toList_eq]; exact beq_eq_false_iff_ne.2 (fun e => hs e.symm)
        have HN1 : Hid (∀ j, j < 5 + 1 → wordsT[j]? ≠ some (bys s)) := by
          intro j hj
          by_cases h : j < 5
          · exact HN.out j h
          · obtain rfl : j = 5 := by omega
            exact fun e => hs (Option.some.inj e).symm
        clear hs HN
        go_wp2
        exact ⟨⟨6, by omega, by go_num, trivial, HN1⟩, by simp [intOf]⟩
    · have hz := cat_none (bys s) HN.out
      have HZ := hide hz
      clear hz HN
      go_wp2
      go_ret
      exact ⟨by rw [HZ.out]; rfl, HB.out⟩

end Go.Proofs.YtkbciljfjijclaaGreatDoor
