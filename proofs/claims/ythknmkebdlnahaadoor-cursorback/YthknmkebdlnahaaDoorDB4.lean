/-
  CursorBack.
  An argument that is a list of things, as a row of the given statements hands it over.
  What the rows' list of package variables gives, and a world that holds them.
-/
import Derived.Test.YthknmkebdlnahaaDoorDB3
import Derived.Lib.AppendStr
import Derived.Lib.UnsafeStr
import Derived.OwnWalk
import Derived.Test.YthknmkebdlnahaaDoorDB1
import Derived.SizedLaws
import Derived.ChangeSame
import Derived.Deep.SlicePairs
import Derived.Test.YthknmkebdlnahaaDoorRows
import Derived.Test.YthknmkebdlnahaaDoorDB2
import Derived.Lib.LaidU8
import Derived.Deep.DeepHandedRow
namespace Go.Proofs.YthknmkebdlnahaaDoor
open Go.RowKit

def TSl (w : World) (v : Value) (ts : List Tng) : Prop := ∃ ao cap, v = .slice ao ts.length cap ∧ ts.length ≤ cap ∧ (ts = [] ∨ ∃ b o, ao = some ⟨b, o, none⟩ ∧ b < w.heap.size ∧ ∀ i, i < ts.length → w.cell? ⟨b, o + i * 3, none⟩ = some (.int .i64 (nthT ts i).b) ∧ w.cell? ⟨b, o + i * 3 + 1, none⟩ = some (.int .i64 (nthT ts i).n) ∧ w.cell? ⟨b, o + i * 3 + 2, none⟩ = some (.string (nthT ts i).s))

theorem Tryd.infoTh : (Tryd.prog.info? 38).map (fun i => (i.zero, i.size, i.bytes)) = some (some (.agg #[.int .i64 0, .int .i64 0, .string ⟨#[]⟩]), 3, 32) := by kernel_rfl

def cellsT (l : List Tng) : List Value := l.flatMap fun t => [.int .i64 t.b, .int .i64 t.n, .string t.s]
theorem cellsT_app (a b : List Tng) : cellsT (a ++ b) = cellsT a ++ cellsT b := by unfold cellsT; rw [List.flatMap_append]
theorem cellsT_len : ∀ l : List Tng, (cellsT l).length = l.length * 3
  | [] => rfl
  | t :: r => by
    rw [show t :: r = [t] ++ r from rfl, cellsT_app, List.length_append, cellsT_len r, List.length_append]
    show 3 + _ = _
    simp
    omega
theorem cellsT_at (l : List Tng) (i k : Nat) (hi : i < l.length) (hk : k < 3) : (cellsT l)[i * 3 + k]? = [Value.int .i64 (nthT l i).b, .int .i64 (nthT l i).n, .string (nthT l i).s][k]? := by
  have e : l = l.take i ++ ([nthT l i] ++ l.drop (i + 1)) := by rw [← List.append_assoc, ← take_succT l i hi, List.take_append_drop]
  have hc : cellsT l = cellsT (l.take i) ++ (cellsT [nthT l i] ++ cellsT (l.drop (i + 1))) := by rw [← cellsT_app, ← cellsT_app, ← e]
  have hl : (cellsT (l.take i)).length = i * 3 := by rw [cellsT_len, List.length_take]; congr 1; omega
  rw [hc, List.getElem?_append_right (by rw [hl]; omega), hl, Nat.add_sub_cancel_left, List.getElem?_append_left (by rw [cellsT_len]; simp; omega)]
  rfl

theorem own_below {w w' : World} {B sz n : Nat} {e : TypeId} {v : Value} {xs : List Value} (h : w.ownsRow B e sz v n xs) (hb : Below w.heap.size w w') : w'.ownsRow B e sz v n xs :=
  World.ownsRow.kept h (row := none) ⟨hb.os, hb.tape, hb.output, hb.size, fun k hk _ => hb.block k hk⟩ (by cases v.ownBlock <;> simp)
theorem own_but {w w' : World} {B sz n D : Nat} {e : TypeId} {v : Value} {xs : List Value} (h : w.ownsRow B e sz v n xs) (hb : But D w w') (hD : v.ownBlock ≠ some D) : w'.ownsRow B e sz v n xs :=
  World.ownsRow.kept h (row := some D) ⟨hb.os, hb.tape, hb.output, hb.size, fun k hk hn => hb.block k hk (fun q => hn (by rw [q]))⟩ (.inr hD)

theorem own_apart {w : World} {B sz n B' sz' n' : Nat} {e e' : TypeId} {v v' : Value} {xs xs' : List Value} (h : w.ownsRow B e sz v n xs) (h' : w.ownsRow B' e' sz' v' n' xs') (he : e ≠ e') : v.ownBlock = none ∨ v.ownBlock ≠ v'.ownBlock := by
  rcases h.2 with ⟨rfl, _⟩ | ⟨g, cap, cur, rfl, _, hh, _⟩
  · exact .inl rfl
  · right
    intro q
    rcases h'.2 with ⟨rfl, _⟩ | ⟨g', cap', cur', rfl, _, hh', _⟩
    · simp [Value.ownBlock] at q
    · simp only [Value.ownBlock, Option.some.injEq] at q
      subst q
      rw [hh] at hh'
      simp at hh'
      exact he hh'.2

theorem own_form {w : World} {B sz n : Nat} {e : TypeId} {v : Value} {xs : List Value} (h : w.ownsRow B e sz v n xs) (hv : v ≠ .slice none 0 0) : ∃ g cap, v = .slice (some ⟨g, 0, none⟩) n cap ∧ B ≤ g ∧ g < w.heap.size ∧ n ≤ cap := by
  rcases h.2 with ⟨rfl, _⟩ | ⟨g, cap, cur, rfl, hg, hh, hn, _⟩
  · exact absurd rfl hv
  · exact ⟨g, cap, rfl, hg, lt_of_block hh, hn⟩

def someT (ts : List Tng) (i : Nat) : List Tng := (ts.take i).filter laidOk
theorem someT_yes (ts : List Tng) (i : Nat) (hi : i < ts.length) (h : laidOk (nthT ts i) = true) : someT ts (i + 1) = someT ts i ++ [nthT ts i] := by
  unfold someT
  rw [take_succT ts i hi, List.filter_append]
  congr 1
  simp [h]
theorem someT_no (ts : List Tng) (i : Nat) (hi : i < ts.length) (h : laidOk (nthT ts i) = false) : someT ts (i + 1) = someT ts i := by
  unfold someT
  rw [take_succT ts i hi, List.filter_append]
  simp [h]
theorem someT_len (ts : List Tng) (i : Nat) : (someT ts i).length ≤ i := by
  unfold someT
  refine Nat.le_trans (List.length_filter_le _ _) ?_
  rw [List.length_take]
  omega
theorem someT_ok (ts : List Tng) (i j : Nat) (h : j < (someT ts i).length) : laidOk (nthT (someT ts i) j) = true := by
  unfold nthT
  rw [List.getElem?_eq_getElem h]
  exact (List.mem_filter.1 (List.getElem_mem h)).2

structure Gath (w wr : World) (ts : List Tng) (i : Nat) (vb vs : Value) : Prop where
  bytes : wr.ownsRow w.heap.size 5 1 vb (flatL (someT ts i)).length (Lib.byteCells (flatL (someT ts i)))
  some_ : wr.ownsRow w.heap.size 38 3 vs (someT ts i).length (cellsT (someT ts i))
  b : Below w.heap.size w wr

set_option maxRecDepth 100000 in
set_option maxHeartbeats 8000000 in
theorem back_row (w : World) (hT : U8 w) (v : Value) (ts : List Tng) (hq : TSl w v ts) (hol : ts.length ≤ 1048576) : Calls Tryd.prog 5 #[v] w fun e w' => e = .returned (.bool true) ∧ Below w.heap.size w w' := by
  have HT := hide hT
  have HOF : Hid (∀ D, w.heap.size ≤ D → OffT D) := fun D hD => hT.off hD
  obtain ⟨i0, hi0, hz0, hz1, hz2⟩ := info_parts Tryd.infoBz
  obtain ⟨i1, hi1, hy0, hy1, hy2⟩ := info_parts Tryd.infoTh
  obtain ⟨ao, cap, rfl, hoc, hoa⟩ := hq
  have HOA := hide hoa
  obtain ⟨L, hL⟩ : ∃ L, L = ts.length := ⟨_, rfl⟩
  rw [← hL] at hoc hol ⊢
  have HL := hide hL
  clear hoa hL hT
  have G0 : Hid (Gath w ((w.alloc (.cells #[] 5)).alloc (.cells #[] 38)) ts 0 (.slice (some ⟨w.heap.size, 0, none⟩) 0 0) (.slice (some ⟨w.heap.size + 1, 0, none⟩) 0 0)) := hide (by
    have b1 : Below w.heap.size w (w.alloc (.cells #[] 5)) := (Below.refl _ _).alloc (Nat.le_refl _) _
    have b2 : Below (w.alloc (.cells #[] 5)).heap.size (w.alloc (.cells #[] 5)) ((w.alloc (.cells #[] 5)).alloc (.cells #[] 38)) := (Below.refl _ _).alloc (Nat.le_refl _) _
    refine ⟨?_, ?_, b1.trans (b2.mono b1.size)⟩
    · exact own_below (World.ownsRow_made w #[] 0 (Nat.le_refl _) (by decide) rfl) b2
    · have h := World.ownsRow_made (base := w.heap.size) (e := 38) (size := 3) (w.alloc (.cells #[] 5)) #[] 0 b1.size (by decide) rfl
      have e : (w.alloc (.cells #[] 5)).heap.size = w.heap.size + 1 := by simp
      rw [e] at h
      exact h)
  go_enter Tryd.func5, Tryd.ntmps5
  go_wp2
  go_loopw [3, 4, 5] (fun x y z wr => ∃ (i g1 c1 g2 c2 : Nat), i ≤ L ∧ x = .slice (some ⟨g1, 0, none⟩) (flatL (someT ts i)).length c1 ∧ y = .slice (some ⟨g2, 0, none⟩) (someT ts i).length c2 ∧ z = .int .i64 (i : Int) ∧ Hid (Gath w wr ts i (.slice (some ⟨g1, 0, none⟩) (flatL (someT ts i)).length c1) (.slice (some ⟨g2, 0, none⟩) (someT ts i).length c2))) (fun _ _ z _ => L - (intOf z).toNat)
  case atStart => exact ⟨0, _, _, _, _, Nat.zero_le _, rfl, rfl, rfl, G0⟩
  case round =>
    obtain ⟨i, g1, c1, g2, c2, hi, rfl, rfl, rfl, G⟩ := hrel
    clear G0
    by_cases hlt : i < L
    · have hlt' : (i : Int) < (L : Int) := by omega
      have hil : i < ts.length := by rw [← HL.out]; exact hlt
      obtain ⟨b, o, hao, hbl, hcl⟩ : ∃ b o, ao = some ⟨b, o, none⟩ ∧ b < w.heap.size ∧ ∀ i, i < ts.length → w.cell? ⟨b, o + i * 3, none⟩ = some (.int .i64 (nthT ts i).b) ∧ w.cell? ⟨b, o + i * 3 + 1, none⟩ = some (.int .i64 (nthT ts i).n) ∧ w.cell? ⟨b, o + i * 3 + 2, none⟩ = some (.string (nthT ts i).s) := by
        rcases HOA.out with rfl | h
        · have := HL.out; simp at this; omega
        · exact h
      subst hao
      have hcc := hcl i hil
      have CW : Hid (∀ X, Below w.heap.size w X → X.cell? ⟨b, o + i * 3, none⟩ = some (.int .i64 (nthT ts i).b) ∧ X.cell? ⟨b, o + i * 3 + 1, none⟩ = some (.int .i64 (nthT ts i).n) ∧ X.cell? ⟨b, o + i * 3 + 2, none⟩ = some (.string (nthT ts i).s)) := fun X hX => ⟨(hX.cell hbl).trans hcc.1, (hX.cell hbl).trans hcc.2.1, (hX.cell hbl).trans hcc.2.2⟩
      have HLD := hide (laid_any (nthT ts i) wr (HT.out.below G.out.b))
      have hfl := flatL_len (someT ts i)
      have hsl := someT_len ts i
      have hlv := laidV_size (nthT ts i)
      have HN := hide (someT_no ts i hil)
      have HY := hide (someT_yes ts i hil)
      clear hcl hcc hbl
      obtain ⟨TT, hTT⟩ : ∃ TT, TT = nthT ts i := ⟨_, rfl⟩
      rw [← hTT] at CW HLD hlv HN HY
      clear hTT
      obtain ⟨k0, k1, k2⟩ := CW.out wr G.out.b
      obtain ⟨SM, hSM⟩ : ∃ SM, SM = someT ts i := ⟨_, rfl⟩
      obtain ⟨N1, hN1⟩ : ∃ N1, N1 = (flatL SM).length := ⟨_, rfl⟩
      obtain ⟨N2, hN2⟩ : ∃ N2, N2 = SM.length := ⟨_, rfl⟩
      have GB : Hid (wr.ownsRow w.heap.size 5 1 (.slice (some ⟨g1, 0, none⟩) N1 c1) N1 (Lib.byteCells (flatL SM))) := hide (by rw [hN1, hSM]; exact G.out.bytes)
      have GS : Hid (wr.ownsRow w.heap.size 38 3 (.slice (some ⟨g2, 0, none⟩) N2 c2) N2 (cellsT SM)) := hide (by rw [hN2, hSM]; exact G.out.some_)
      have GW := hide G.out.b
      rw [← hSM, ← hN1, ← hN2] at hfl
      rw [← hSM, ← hN2] at hsl
      have HS1 := hide hSM
      have HS2 := hide hN1
      have HS3 := hide hN2
      rw [← hSM, ← hN1, ← hN2]
      clear G hSM hN1 hN2
      cases hok : laidOk TT with
      | false =>
        have hno := HN.out hok
        rw [hok] at HLD
        have HNO := hide hno
        clear hno HN HY hok
        obtain ⟨tb, tn, tx⟩ := TT
        go_wp2_with fail
        refine HLD.out.mono ?_
        rintro x w1 ⟨rfl, hb⟩
        have G1 : Hid (Gath w w1 ts (i + 1) (.slice (some ⟨g1, 0, none⟩) (flatL (someT ts (i + 1))).length c1) (.slice (some ⟨g2, 0, none⟩) (someT ts (i + 1)).length c2)) := hide (by
          rw [HNO.out, ← HS1.out, ← HS2.out, ← HS3.out]
          exact ⟨by rw [HNO.out, ← HS1.out, ← HS2.out]; exact own_below GB.out hb, by rw [HNO.out, ← HS1.out, ← HS3.out]; exact own_below GS.out hb, GW.out.trans (hb.mono GW.out.size)⟩)
        clear hb HLD GB GS GW
        go_wp2
        refine ⟨⟨i + 1, g1, c1, g2, c2, by omega, ?_, ?_, by go_num, G1⟩, by simp [intOf]; omega⟩
        · rw [HNO.out, ← HS1.out, ← HS2.out]
        · rw [HNO.out, ← HS1.out, ← HS3.out]
      | true =>
        have hyes := HY.out hok
        rw [hok] at HLD
        have HYE := hide hyes
        clear hyes HN HY hok
        obtain ⟨tb, tn, tx⟩ := TT
        obtain ⟨LV, hLV⟩ : ∃ LV, LV = laidV ⟨tb, tn, tx⟩ := ⟨_, rfl⟩
        rw [← hLV] at HLD hlv
        have HLV := hide hLV
        clear hLV
        go_wp2_with fail
        refine HLD.out.mono ?_
        rintro x w1 ⟨rfl, hb⟩
        have GB1 := hide (own_below GB.out hb)
        have GS1 := hide (own_below GS.out hb)
        have GW1 := hide (GW.out.trans (hb.mono GW.out.size))
        clear hb HLD GB GS GW k0 k1 k2
        have hz9 : N1 + LV.size ≤ 1100000000 := by omega
        go_wp2_with (at_builtin; refine Lib.wpList_append_own_string _ rfl _ _ 34 9 rfl w.heap.size 5 i0 Tryd.underlying34 Tryd.underlying9 hi0 hz0 hz1 hz2 _ N1 (Lib.byteCells (flatL SM)) rfl GB1.out LV rfl ?_ ?_ ?_ ?_)
        · unfold maxLen; omega
        · omega
        · exact GW1.out.size
        · intro v' w2 hown hgr hnil
          obtain ⟨g3, c3, rfl, hg3, hg3l, hc3⟩ := own_form hown (fun e => hnil e)
          have hlo : ∀ q, (Value.slice (some ⟨g1, 0, none⟩) N1 c1).ownBlock = some q → w.heap.size ≤ q := fun q hq => (World.ownsRow.lt GB1.out q hq).1
          have GW2 := hide (GW1.out.grown hgr GW1.out.size hlo)
          have GS2 := hide (World.ownsRow.kept GS1.out hgr (own_apart GS1.out GB1.out (by decide)))
          have GB2 := hide hown
          have halw : Below w2.heap.size w2 (w2.alloc (.cells #[.int .i64 tb, .int .i64 tn, .string tx] 38)) := (Below.refl _ _).alloc (Nat.le_refl _) _
          have GS3 := hide (own_below GS2.out halw)
          have GB3 := hide (own_below GB2.out halw)
          have GW3 := hide (GW2.out.trans (halw.mono GW2.out.size))
          have BQ := hide (Blk.newAt w2 w2.heap.size rfl #[.int .i64 tb, .int .i64 tn, .string tx] 38)
          obtain ⟨k0, k1, k2⟩ := CW.out w2 GW2.out
          clear hown hgr hnil hlo halw GB1 GS1 GW1 GW2 GS2 GB2
          go_wp2_with (at_builtin; refine wpList_append_own _ rfl _ _ 33 rfl w.heap.size 38 i1 (.agg #[.int .i64 0, .int .i64 0, .string ⟨#[]⟩]) 3 32 Tryd.underlying33 hi1 hy0 hy1 hy2 rfl (by decide) _ N2 (cellsT SM) rfl GS3.out ⟨w2.heap.size, 0, none⟩ 1 1 (cellsT [⟨tb, tn, tx⟩]) rfl rfl ?_ ?_ ?_ ?_ ?_ ?_)
          · intro j u hj
            have e : cellsT [⟨tb, tn, tx⟩] = [.int .i64 tb, .int .i64 tn, .string tx] := rfl
            rw [e] at hj
            rw [Addr.add_lit, Nat.zero_add, BQ.out.cell j]
            rw [← hj]
            simp
          · intro u hu
            have e : cellsT [⟨tb, tn, tx⟩] = [.int .i64 tb, .int .i64 tn, .string tx] := rfl
            rw [e] at hu
            simp at hu
            rcases hu with rfl | rfl | rfl <;> rfl
          · unfold maxLen; omega
          · omega
          · exact GW3.out.size
          · intro v' w4 hown hgr hnil
            obtain ⟨g4, c4, rfl, hg4, hg4l, hc4⟩ := own_form hown (fun e => hnil e)
            have hlo : ∀ q, (Value.slice (some ⟨g2, 0, none⟩) N2 c2).ownBlock = some q → w.heap.size ≤ q := fun q hq => (World.ownsRow.lt GS3.out q hq).1
            have GW4 := hide (GW3.out.grown hgr GW3.out.size hlo)
            have GB4 := hide (World.ownsRow.kept GB3.out hgr (own_apart GB3.out GS3.out (by decide)))
            have eF : flatL (someT ts (i + 1)) = flatL SM ++ bys LV := by rw [HYE.out, ← HS1.out, flatL_app, flatL_one, HLV.out]
            have eS : someT ts (i + 1) = SM ++ [⟨tb, tn, tx⟩] := by rw [HYE.out, ← HS1.out]
            have eFl : (flatL (someT ts (i + 1))).length = N1 + LV.size := by rw [eF, List.length_append, bys_len, ← HS2.out]
            have eSl : (someT ts (i + 1)).length = N2 + 1 := by rw [eS, List.length_append, ← HS3.out]; rfl
            have G1 : Hid (Gath w w4 ts (i + 1) (.slice (some ⟨g3, 0, none⟩) (flatL (someT ts (i + 1))).length c3) (.slice (some ⟨g4, 0, none⟩) (someT ts (i + 1)).length c4)) := hide (by
              refine ⟨?_, ?_, GW4.out⟩
              · rw [eFl, eF, show Lib.byteCells (flatL SM ++ bys LV) = Lib.byteCells (flatL SM) ++ Lib.strCells LV by unfold Lib.byteCells Lib.strCells bys; rw [List.map_append]]
                exact GB4.out
              · rw [eSl, eS, cellsT_app]
                exact hown)
            have EF := hide eFl
            have ES := hide eSl
            clear hown hgr hnil hlo GB3 GS3 GW3 GW4 GB4 eF eS eFl eSl BQ
            go_wp2
            refine ⟨⟨i + 1, g3, c3, g4, c4, by omega, ?_, ?_, by go_num, G1⟩, by simp [intOf]; omega⟩
            · rw [EF.out]
            · rw [ES.out]
    · have hlt' : ¬ (i : Int) < (L : Int) := by omega
      obtain ⟨SM, hSM⟩ : ∃ SM, SM = someT ts i := ⟨_, rfl⟩
      obtain ⟨AC, hAC⟩ : ∃ AC, AC = flatL SM := ⟨_, rfl⟩
      obtain ⟨N1, hN1⟩ : ∃ N1, N1 = AC.length := ⟨_, rfl⟩
      obtain ⟨N2, hN2⟩ : ∃ N2, N2 = SM.length := ⟨_, rfl⟩
      have hfl := flatL_len SM
      have hsl := someT_len ts i
      have OKS : Hid (∀ j, j < N2 → laidOk (nthT SM j) = true) := hide (fun j hj => by rw [hSM]; exact someT_ok ts i j (by rw [← hSM, ← hN2]; exact hj))
      have GB : Hid (wr.ownsRow w.heap.size 5 1 (.slice (some ⟨g1, 0, none⟩) N1 c1) N1 (Lib.byteCells AC)) := hide (by rw [hN1, hAC, hSM]; exact G.out.bytes)
      have GS : Hid (wr.ownsRow w.heap.size 38 3 (.slice (some ⟨g2, 0, none⟩) N2 c2) N2 (cellsT SM)) := hide (by rw [hN2, hSM]; exact G.out.some_)
      have GW := hide G.out.b
      rw [← hAC, ← hN1, ← hN2] at hfl
      rw [← hSM, ← hN2] at hsl
      rw [← hSM, ← hAC, ← hN1, ← hN2]
      have HS2 := hide hAC
      have HS3 := hide hN1
      have HS4 := hide hN2
      have hn1 : N1 ≤ 1100000000 := by omega
      clear G hSM hAC hN1 hN2 hfl
      have CV : Hid (∀ X, Below wr.heap.size wr X → (convert 34 9 (.slice (some ⟨g1, 0, none⟩) N1 c1)).run Tryd.prog X = .ok (.string ⟨AC.toArray⟩) X) := hide (by
        intro X hX
        have ho := own_below GB.out hX
        have := convB_at (X := X) (g := g1) (o := 0) (cap := c1) (l := AC) (fun j hj => by
          have hcx := World.ownsRow.cells ho (g := g1) rfl j (.int .u8 ((byt AC j : Nat) : Int)) (by
            unfold Lib.byteCells
            rw [List.getElem?_map, List.getElem?_eq_getElem hj]
            unfold byt
            simp [hj])
          rw [Addr.add_lit] at hcx
          exact hcx)
        rw [← HS3.out] at this
        exact this)
      have hTz : (⟨AC.toArray⟩ : ByteArray).size = N1 := by rw [HS3.out]; rfl
      have HTB : Hid (bys (⟨AC.toArray⟩ : ByteArray) = flatL SM ++ []) := hide (by rw [List.append_nil, ← HS2.out]; rfl)
      obtain ⟨T, hT⟩ : ∃ T : ByteArray, T = ⟨AC.toArray⟩ := ⟨_, rfl⟩
      rw [← hT] at hTz HTB
      rw [← hT] at CV
      clear hT
      have HTX : Hid (bys (T ++ ⟨#[120]⟩) = flatL SM ++ [120]) := hide (by rw [bys_append, HTB.out, List.append_nil]; rfl)
      have hz8 : ¬ 9223372036854775807 < T.size + (⟨#[120]⟩ : ByteArray).size := by show ¬ _ < T.size + 1; omega
      have hTX : (T ++ ⟨#[120]⟩).size = N1 + 1 := by rw [size_cat, hTz]; rfl
      have cv0 := CV.out wr (Below.refl _ _)
      go_wp2_with fail
      refine (New_any T wr).mono ?_
      rintro x w1 ⟨rfl, hc, hb⟩
      have HC1 := hide hc
      have HB1 := hide hb
      have cv1 := CV.out w1 hb
      have hDl := hc.lt
      have HG1 := hide (own_below GS.out hb)
      obtain ⟨D1, hD1⟩ : ∃ D1, D1 = wr.heap.size := ⟨_, rfl⟩
      have hg2D : g2 < D1 := by rw [hD1]; exact (World.ownsRow.lt GS.out g2 rfl).2
      have hD1w : w.heap.size ≤ D1 := by rw [hD1]; exact GW.out.size
      rw [← hD1] at HC1 hDl ⊢
      have GW1 := hide (GW.out.trans (hb.mono GW.out.size))
      clear hc hb cv0 hD1 GB GS CV HB1 GW
      obtain ⟨TX, hTXX⟩ : ∃ TX : ByteArray, TX = T ++ ⟨#[120]⟩ := ⟨_, rfl⟩
      rw [← hTXX] at HTX hTX
      have HTXX := hide hTXX.symm
      clear hTXX
      go_wp2_with (rw [HTXX.out])
      refine (New_any TX w1).mono ?_
      rintro x w2 ⟨rfl, hc, hb⟩
      have HC2 := hide hc
      have HC1b := hide (HC1.out.below hb)
      have HG2 := hide (own_below HG1.out hb)
      have GW2 := hide (GW1.out.trans (hb.mono GW1.out.size))
      obtain ⟨D2, hD2⟩ : ∃ D2, D2 = w1.heap.size := ⟨_, rfl⟩
      have hD12 : D1 < D2 := by rw [hD2]; exact hDl
      rw [← hD2] at HC2 ⊢
      clear hc hb hD2 HC1 HG1 GW1 cv1
      go_wp2
      go_loopw [10] (fun x wq => ∃ j : Nat, j ≤ N2 ∧ x = .int .i64 (j : Int) ∧ Hid (Cur wq D1 T (posT SM j) 0 ∧ Cur wq D2 TX (posT SM j) 0 ∧ wq.ownsRow w.heap.size 38 3 (.slice (some ⟨g2, 0, none⟩) N2 c2) N2 (cellsT SM) ∧ Below w.heap.size w wq)) (fun x _ => N2 - (intOf x).toNat)
      case atStart => exact ⟨0, Nat.zero_le _, rfl, HC1b.out, HC2.out, HG2.out, GW2.out⟩
      case round =>
        obtain ⟨j, hj, rfl, R⟩ := hrel
        clear HC1b HC2 HG2 GW2
        by_cases hlj : j < N2
        · have hlj' : (j : Int) < (N2 : Int) := by omega
          have hjl : j < SM.length := by rw [← HS4.out]; exact hlj
          have hst1 := stands_at SM T [] HTB.out j hjl
          have hst2 := stands_at SM TX [120] HTX.out j hjl
          have hps := posT_succ SM j hjl
          have hok := OKS.out j hlj
          have HCE : Hid (∀ X : World, X.ownsRow w.heap.size 38 3 (.slice (some ⟨g2, 0, none⟩) N2 c2) N2 (cellsT SM) → X.cell? ⟨g2, j * 3, none⟩ = some (.int .i64 (nthT SM j).b) ∧ X.cell? ⟨g2, j * 3 + 1, none⟩ = some (.int .i64 (nthT SM j).n) ∧ X.cell? ⟨g2, j * 3 + 2, none⟩ = some (.string (nthT SM j).s)) := hide (by
            intro X hX
            have f := fun k (hk : k < 3) u (hu : [Value.int .i64 (nthT SM j).b, .int .i64 (nthT SM j).n, .string (nthT SM j).s][k]? = some u) => World.ownsRow.cells hX (g := g2) rfl (j * 3 + k) u (by rw [cellsT_at SM j k hjl hk]; exact hu)
            have f0 := f 0 (by decide) _ rfl
            have f1 := f 1 (by decide) _ rfl
            have f2 := f 2 (by decide) _ rfl
            rw [Addr.add_lit, Nat.zero_add] at f0 f1 f2
            exact ⟨f0, f1, f2⟩)
          generalize nthT SM j = TT at *
          obtain ⟨q2, hq2⟩ : ∃ q2, q2 = posT SM (j + 1) := ⟨_, rfl⟩
          rw [← hq2] at hps
          have HQ2 := hide hq2
          generalize posT SM j = q at *
          clear hq2
          obtain ⟨tb, tn, tx⟩ := TT
          have C0 : Hid (∀ X, Hid (Below wr.heap.size wr X) → Calls Tryd.prog 22 #[.pointer (some ⟨D1, 0, none⟩), .agg #[.int .i64 tb, .int .i64 tn, .string tx]] X fun x w' => x = .returned (.bool true) ∧ Hid (Cur w' D1 T q2 0 ∧ Cur w' D2 TX q 0 ∧ w'.ownsRow w.heap.size 38 3 (.slice (some ⟨g2, 0, none⟩) N2 c2) N2 (cellsT SM) ∧ Below w.heap.size w w') ∧ w'.cell? ⟨g2, j * 3, none⟩ = some (.int .i64 tb) ∧ w'.cell? ⟨g2, j * 3 + 1, none⟩ = some (.int .i64 tn) ∧ w'.cell? ⟨g2, j * 3 + 2, none⟩ = some (.string tx)) := by
            intro X bX
            obtain ⟨r1, r2, r3, r4⟩ := R.out
            have r4X := r4.trans (bX.out.mono r4.size)
            refine (read_any ⟨tb, tn, tx⟩ (by omega) (r1.below bX.out) (HT.out.below r4X) (HOF.out D1 hD1w) hok hst1).mono ?_
            rintro x w' ⟨rfl, hc, hbu⟩
            have ho := own_but (own_below r3 bX.out) hbu (by simp [Value.ownBlock]; omega)
            rw [← hps] at hc
            exact ⟨rfl, ⟨hc, (r2.below bX.out).but hbu (by omega), ho, But.frame r4X hbu hD1w⟩, HCE.out w' ho⟩
          have C1 : Hid (∀ V : World, Hid (Cur V D1 T q2 0 ∧ Cur V D2 TX q 0 ∧ V.ownsRow w.heap.size 38 3 (.slice (some ⟨g2, 0, none⟩) N2 c2) N2 (cellsT SM) ∧ Below w.heap.size w V) → Calls Tryd.prog 22 #[.pointer (some ⟨D2, 0, none⟩), .agg #[.int .i64 tb, .int .i64 tn, .string tx]] V fun x w' => x = .returned (.bool true) ∧ Hid (Cur w' D1 T q2 0 ∧ Cur w' D2 TX q2 0 ∧ w'.ownsRow w.heap.size 38 3 (.slice (some ⟨g2, 0, none⟩) N2 c2) N2 (cellsT SM) ∧ Below w.heap.size w w') ∧ w'.cell? ⟨g2, j * 3, none⟩ = some (.int .i64 tb) ∧ w'.cell? ⟨g2, j * 3 + 1, none⟩ = some (.int .i64 tn) ∧ w'.cell? ⟨g2, j * 3 + 2, none⟩ = some (.string tx)) := by
            intro V hV
            obtain ⟨r1, r2, r3, r4⟩ := hV.out
            refine (read_any ⟨tb, tn, tx⟩ (by omega) r2 (HT.out.below r4) (HOF.out D2 (by omega)) hok hst2).mono ?_
            rintro x w' ⟨rfl, hc, hbu⟩
            have ho := own_but r3 hbu (by simp [Value.ownBlock]; omega)
            rw [← hps] at hc
            exact ⟨rfl, ⟨r1.but hbu (by omega), hc, ho, But.frame r4 hbu (by omega)⟩, HCE.out w' ho⟩
          have hcell := HCE.out wr R.out.2.2.1
          obtain ⟨k0, k1, k2⟩ := hcell
          have hc2 : N2 ≤ c2 := by
            rcases R.out.2.2.1.2 with ⟨h, _⟩ | ⟨g, cap, cur, h, _, _, hn, _⟩
            · simp at h
            · simp at h; omega
          have b0 := bdrC wr
          clear hst1 hst2 hok HCE R hps
          go_wp2_with fail
          have mk0 : True := trivial
          go_region_held3 (fun w' => w'.cell? ⟨g2, j * 3, none⟩ = some (.int .i64 tb) ∧ w'.cell? ⟨g2, j * 3 + 1, none⟩ = some (.int .i64 tn) ∧ w'.cell? ⟨g2, j * 3 + 2, none⟩ = some (.string tx)) (go_keep) (first
            | (clear mk0; go_at_call 22; refine (C0.out _ b0).mono ?_; rintro x v1 ⟨rfl, P1, z1, z2, z3⟩; have mk1 : True := trivial)
            | (clear mk1; go_at_call 22; refine (C1.out _ P1).mono ?_; rintro x v2 ⟨rfl, P2, y1, y2, y3⟩; have mk2 : True := trivial))
          rw [HQ2.out] at P2
          clear C0 C1 b0 mk2 P1 z1 z2 z3 y1 y2 y3 k0 k1 k2
          go_wp2
          exact ⟨⟨j + 1, by omega, by go_num, P2⟩, by simp [intOf]; omega⟩
        · have hlj' : ¬ (j : Int) < (N2 : Int) := by omega
          obtain rfl : j = N2 := by omega
          have hpe : posT SM j = N1 := by rw [HS4.out, posT_end, ← HS2.out, ← HS3.out]
          obtain ⟨r1, r2, r3, r4⟩ := R.out
          rw [hpe] at r1 r2
          have HE1 := hide (End_any (by omega) (by omega) r1)
          have e1 : endE T N1 0 = 0 := by unfold endE; rw [if_neg (by omega)]
          have e2 : endP T N1 0 = 0 := by unfold endP; rw [if_neg (by omega)]; rfl
          rw [e1, e2] at HE1
          have HE2 : Hid (∀ X, Cur X D2 TX N1 0 → Calls Tryd.prog 23 #[.pointer (some ⟨D2, 0, none⟩)] X fun x w' => x = .returned (.tuple #[.int .i64 113, .int .i64 (N1 : Int)]) ∧ Below X.heap.size X w') := hide (by
            intro X hX
            have h := End_any (by omega) (by omega) hX
            have e3 : endE TX N1 0 = 113 := by unfold endE; rw [if_pos ⟨rfl, by omega⟩]
            have e4 : endP TX N1 0 = N1 := by unfold endP; rw [if_pos ⟨rfl, by omega⟩]
            rw [e3, e4] at h
            exact h)
          have HR2 := hide r2
          have HR4 := hide r4
          clear r1 r2 r3 r4 R e1 e2 hpe
          go_wp2_with fail
          refine HE1.out.mono ?_
          rintro x w3 ⟨rfl, hb⟩
          have HR5 := hide (HR2.out.below hb)
          have HR6 := hide (HR4.out.trans (hb.mono HR4.out.size))
          clear hb HE1 HR2 HR4
          go_wp2_with fail
          refine (HE2.out _ HR5.out).mono ?_
          rintro x w4 ⟨rfl, hb⟩
          have HR7 := hide (HR6.out.trans (hb.mono HR6.out.size))
          clear hb HE2 HR5 HR6
          have HF := hide (fixed_any w4 (HT.out.below HR7.out))
          go_wp2_with fail
          refine HF.out.mono ?_
          rintro x w9 ⟨rfl, hb⟩
          have HB9 := hide (HR7.out.trans (hb.mono HR7.out.size))
          clear hb HF HR7
          go_wp2
          go_ret
          exact ⟨rfl, HB9.out⟩

end Go.Proofs.YthknmkebdlnahaaDoor

namespace Go.Proofs.YthknmkebdlnahaaDoor
open Go.ChangeShapes Go.WideShapes Go.ChangeAt Go.RowKit

theorem Tryd.cellsI : Tryd.prog.cellsOf 3 = 1 := by kernel_rfl
theorem Tryd.cellsSt : Tryd.prog.cellsOf 9 = 1 := by kernel_rfl
theorem Tryd.cellsTh : Tryd.prog.cellsOf 38 = 3 := by kernel_rfl

theorem choose_tng {n : Nat} {p : Nat → Tng → Prop} (h : ∀ i, i < n → ∃ f, p i f) : ∃ os : List Tng, os.length = n ∧ ∀ i, i < n → p i (nthT os i) := by
  haveI : Inhabited Tng := ⟨⟨0, 0, ⟨#[]⟩⟩⟩
  obtain ⟨q, hq⟩ := Deep.choose_lt (α := Tng) h
  refine ⟨(List.range n).map q, by simp, fun i hi => ?_⟩
  have e : nthT ((List.range n).map q) i = q i := by unfold nthT; simp [hi]
  rw [e]
  exact hq i hi

set_option maxRecDepth 100000 in
theorem viewThings {H : Type} {enc : TypeId × Value → H} {W : World} {base : Nat} {v : Value} {d : DataW H} {p : List MemPlace} (hval : Value.okWide Tryd.prog W .any base 33 v) (h : DataW.Trod enc Tryd.prog W 0 (fun _ => true) true 33 v d p) :
    ∃ ts : List Tng, TSl W v ts ∧ (Rows.uptoBulk d ≤ 1048576 → ts.length ≤ 1048576) := by
  obtain ⟨o, l, c, rfl⟩ := okWide_slice Tryd.underlying33 hval
  obtain ⟨fuel, hf⟩ := h
  rcases Deep.open_slice Tryd.underlying33 hf with ⟨hc, hx⟩ | ⟨a, len, cap, m, n, D, Pl, hc, _, hl, hm, hmm, hx, hel⟩
  · simp [Value.cells] at hc
    obtain ⟨rfl, rfl, rfl⟩ := hc
    exact ⟨[], ⟨none, 0, rfl, Nat.le_refl _, .inl rfl⟩, fun _ => Nat.zero_le _⟩
  · simp [Value.cells] at hc
    obtain ⟨rfl, rfl, rfl⟩ := hc
    simp only [if_true] at hmm
    subst hmm
    rw [Tryd.cellsTh] at hel
    have each : ∀ i, i < l → ∃ f : Tng, W.cell? (a.add (i * 3)) = some (.int .i64 f.b) ∧ W.cell? (a.add (i * 3 + 1)) = some (.int .i64 f.n) ∧ W.cell? (a.add (i * 3 + 2)) = some (.string f.s) := by
      intro i hi
      obtain ⟨cs', h1, h2⟩ := hel i (by omega)
      obtain ⟨_, hlen, hcell⟩ := World.cells?_some h1
      obtain ⟨xs, k, _, _, _, hxl, hfd⟩ := DataW.trod_struct Tryd.underlying38 h2
      match cs', hlen with
      | [c0, c1, c2], _ =>
        match xs, (show xs.length = 3 by simpa using hxl) with
        | [y0, y1, y2], _ =>
          have k0 : DataW.trod enc Tryd.prog W 0 (fun _ => true) true k 3 [c0] = some y0 := by simpa [Tryd.cellsI] using hfd 0 _ rfl
          have k1 : DataW.trod enc Tryd.prog W 0 (fun _ => true) true k 3 [c1] = some y1 := by simpa [Tryd.cellsI] using hfd 1 _ rfl
          have k2 : DataW.trod enc Tryd.prog W 0 (fun _ => true) true k 9 [c2] = some y2 := by simpa [Tryd.cellsSt] using hfd 2 _ rfl
          obtain ⟨z0, e0, _⟩ := DataW.trod_int Tryd.underlying3 k0
          obtain ⟨z1, e1, _⟩ := DataW.trod_int Tryd.underlying3 k1
          obtain ⟨z2, e2, _⟩ := DataW.trod_string Tryd.underlying9 k2
          simp at e0 e1 e2
          subst e0 e1 e2
          have g0 := hcell 0 (by omega)
          have g1 := hcell 1 (by omega)
          have g2 := hcell 2 (by omega)
          rw [Deep.add_add] at g0 g1 g2
          exact ⟨⟨z0, z1, z2⟩, by simpa using g0, by simpa using g1, by simpa using g2⟩
    obtain ⟨os, hfl, hfs⟩ := choose_tng each
    subst hfl
    refine ⟨os, ⟨some a, _, rfl, hl, ?_⟩, fun hz => ?_⟩
    · by_cases h0 : os = []
      · exact .inl h0
      · obtain ⟨b, off, sp⟩ := a
        have hp : 0 < os.length := List.length_pos_iff.2 h0
        have hs : sp = none := by simpa [Addr.add] using World.cell?_spot (hfs 0 hp).1
        subst hs
        refine .inr ⟨b, off, rfl, by simpa [Addr.add] using World.block_lt_of_cell? W _ (hfs 0 hp).1, fun i hi => ?_⟩
        obtain ⟨q0, q1, q2⟩ := hfs i hi
        rw [Addr.add_lit] at q0 q1 q2
        exact ⟨q0, by rw [Nat.add_assoc]; exact q1, by rw [Nat.add_assoc]; exact q2⟩
    · have hd' : d = .slice ((List.range os.length).map D) ((List.range (_ - os.length)).map fun j => D (os.length + j)) := congrArg Prod.fst hx
      rw [hd'] at hz
      simp only [Rows.uptoBulk] at hz
      have := bulk_len ((List.range os.length).map D)
      rw [List.length_map, List.length_range] at this
      omega

end Go.Proofs.YthknmkebdlnahaaDoor

namespace Go.Proofs.YthknmkebdlnahaaDoor
open Go.RowKit

theorem u8extra : U8Extra Tryd.prog Tryd.lays260_ren := ⟨by kernel_rfl, by kernel_rfl, by kernel_rfl, by kernel_rfl, by kernel_rfl, by kernel_rfl, by kernel_rfl⟩
theorem laid_first : (Rows.laid_unicode_utf8_first : DataW Unit) = Lib.firstData := by kernel_rfl
theorem laid_accept : (Rows.laid_unicode_utf8_acceptRanges : DataW Unit) = Lib.acceptData := by kernel_rfl

theorem table {W : World} (h : laidMetH Tryd.prog [("unicode/utf8.acceptRanges", Rows.laid_unicode_utf8_acceptRanges), ("unicode/utf8.first", Rows.laid_unicode_utf8_first)] W) : U8 W := by
  have h' : laidMet Tryd.prog [("unicode/utf8.acceptRanges", Rows.laid_unicode_utf8_acceptRanges), ("unicode/utf8.first", Rows.laid_unicode_utf8_first)] W := h
  have h3 := Lib.laidMet.reads h' (n := "unicode/utf8.first") (d := Rows.laid_unicode_utf8_first) (by simp)
  have h4 := Lib.laidMet.reads h' (n := "unicode/utf8.acceptRanges") (d := Rows.laid_unicode_utf8_acceptRanges) (by simp)
  rw [laid_first] at h3
  rw [laid_accept] at h4
  exact utf8Tabs_of_reads Tryd.lays260 u8extra h3 h4

def tabVals : DataW Unit → Array Value
  | .agg l => (l.flatMap fun
      | .lit (.int k z) => [Value.int k z]
      | .agg l2 => l2.map fun
        | .lit (.int k z) => Value.int k z
        | _ => .int .u8 0
      | _ => []).toArray
  | _ => #[]

def putVals (d : DataW Unit) : Obj → Obj
  | .cells _ t frozen => .cells (tabVals d) t frozen
  | o => o

noncomputable def laidWorld (os : Os) : World :=
  { World.holding Tryd.prog os ⟨#[], #[], []⟩ with
    heap := ((World.holding Tryd.prog os ⟨#[], #[], []⟩).heap.modify 1 (putVals Rows.laid_unicode_utf8_acceptRanges)).modify 0 (putVals Rows.laid_unicode_utf8_first) }

end Go.Proofs.YthknmkebdlnahaaDoor
