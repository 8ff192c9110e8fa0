/-
  What quipuref09.readRanges does.
  What quipuref09's CheckRanges and PickRange do.
  RuleRanges.
  What the rows' list of package variables gives, and a world that holds them.
  What the rows' list of package variables gives of the two errors of strconv.
-/
import Derived.Test.YtkbciljfjijclaaGreatDoorAB16
import Derived.Test.YtkbciljfjijclaaGreatDoorAB23
import Derived.Deep.RegionHeld3
import Derived.Test.YtkbciljfjijclaaGreatDoorRows
import Derived.Test.YtkbciljfjijclaaGreatDoorAB6
import Derived.Lib.LaidTab
import Derived.Deep.DeepHandedRow
namespace Go.Proofs.YtkbciljfjijclaaGreatDoor
open Go.RowKit

theorem info_a3 : (Tryz.prog.info? 92).map (fun i => (i.zero, i.size, i.bytes)) = some (some (.agg #[.int .i64 0, .int .i64 0, .int .i64 0]), 3, 24) := by kernel_rfl

abbrev Ent := (Nat × Nat) × Nat
def cellsN (l : List Ent) : List Value := l.flatMap fun x => [.int .i64 (x.1.1 : Int), .int .i64 (x.1.2 : Int), .int .i64 (x.2 : Int)]
theorem cellsN_app (a b : List Ent) : cellsN (a ++ b) = cellsN a ++ cellsN b := by unfold cellsN; rw [List.flatMap_append]
theorem cellsN_len : ∀ l : List Ent, (cellsN l).length = l.length * 3
  | [] => rfl
  | t :: r => by
    rw [show t :: r = [t] ++ r from rfl, cellsN_app, List.length_append, cellsN_len r, List.length_append]
    show 3 + _ = _
    simp
    omega
theorem cellsN_at (l : List Ent) (i k : Nat) (x : Ent) (hx : l[i]? = some x) (hk : k < 3) : (cellsN l)[i * 3 + k]? = [Value.int .i64 (x.1.1 : Int), .int .i64 (x.1.2 : Int), .int .i64 (x.2 : Int)][k]? := by
  have hi : i < l.length := by
    rcases Nat.lt_or_ge i l.length with q | q
    · exact q
    · rw [List.getElem?_eq_none q] at hx; cases hx
  have e : l = l.take i ++ ([x] ++ l.drop (i + 1)) := by
    rw [List.getElem?_eq_getElem hi, Option.some.injEq] at hx
    rw [← hx, List.singleton_append, ← List.drop_eq_getElem_cons hi, List.take_append_drop]
  have hc : cellsN l = cellsN (l.take i) ++ (cellsN [x] ++ cellsN (l.drop (i + 1))) := by rw [← cellsN_app, ← cellsN_app, ← e]
  have hl : (cellsN (l.take i)).length = i * 3 := by rw [cellsN_len, List.length_take]; congr 1; omega
  rw [hc, List.getElem?_append_right (by rw [hl]; omega), hl, Nat.add_sub_cancel_left, List.getElem?_append_left (by rw [cellsN_len]; simp; omega)]
  rfl

def EntL (B : Nat) (w : World) (g cap : Nat) (l : List Ent) : Prop := w.ownsRow B 92 3 (.slice (some ⟨g, 0, none⟩) l.length cap) l.length (cellsN l)

theorem EntL.at {B g cap : Nat} {w : World} {l : List Ent} (h : EntL B w g cap l) (i : Nat) (x : Ent) (hx : l[i]? = some x) : w.cell? ⟨g, i * 3, none⟩ = some (.int .i64 (x.1.1 : Int)) ∧ w.cell? ⟨g, i * 3 + 1, none⟩ = some (.int .i64 (x.1.2 : Int)) ∧ w.cell? ⟨g, i * 3 + 2, none⟩ = some (.int .i64 (x.2 : Int)) := by
  have f := fun k (hk : k < 3) u (hu : [Value.int .i64 (x.1.1 : Int), .int .i64 (x.1.2 : Int), .int .i64 (x.2 : Int)][k]? = some u) => World.ownsRow.cells h (g := g) rfl (i * 3 + k) u (by rw [cellsN_at l i k x hx hk]; exact hu)
  have f0 := f 0 (by decide) _ rfl
  have f1 := f 1 (by decide) _ rfl
  have f2 := f 2 (by decide) _ rfl
  rw [Addr.add_lit, Nat.zero_add] at f0 f1 f2
  exact ⟨f0, f1, f2⟩

structure CutX (W : World) (cs : Array Value) (v : Value) (W' : World) : Prop where
  ex : ∃ X : Nat, v = .pointer (some ⟨X, 0, none⟩) ∧ Blk W' X cs 92 ∧ W.heap.size ≤ X ∧ Below W.heap.size W W'

theorem cutx_old {W w3 : World} {F : Nat} {x0 x1 x2 y0 y1 y2 : Value} (hb : Below W.heap.size W w3) (q : Blk w3 F #[x0, x1, x2] 92) (hF : W.heap.size ≤ F) :
    CutX W #[y0, y1, y2] (.pointer (some ⟨F, 0, none⟩)) (((w3.setCell ⟨F, 0, none⟩ y0).setCell ⟨F, 1, none⟩ y1).setCell ⟨F, 2, none⟩ y2) :=
  ⟨F, rfl, q.put3 _ _ _, hF, ((hb.setCell (p := ⟨F, 0, none⟩) hF _).setCell (p := ⟨F, 1, none⟩) hF _).setCell (p := ⟨F, 2, none⟩) hF _⟩
theorem cutx_new {W w3 : World} {cs : Array Value} (hb : Below W.heap.size W w3) : CutX W cs (.pointer (some ⟨w3.heap.size, 0, none⟩)) (w3.alloc (.cells cs 92)) :=
  ⟨w3.heap.size, rfl, Blk.new _ _ _, hb.size, hb.alloc hb.size _⟩
theorem bdrE (w : World) : Hid (Below w.heap.size w w.drew) := (Below.refl _ _).drew
theorem balE {W w : World} (h : Hid (Below W.heap.size W w)) (o : Obj) : Hid (Below W.heap.size W (w.alloc o)) := h.out.alloc h.out.size o

theorem row_five (ts : List Tok) (f t : Nat) (a b c d e : Tok) (h0 : ts[f]? = some a) (h1 : ts[f + 1]? = some b) (h2 : ts[f + 2]? = some c) (h3 : ts[f + 3]? = some d) (h4 : ts[f + 4]? = some e) (ht : t = f + 5) : (ts.take t).drop f = [a, b, c, d, e] := by
  subst ht
  apply List.ext_getElem?
  intro i
  rw [List.getElem?_drop]
  match i with
  | 0 => rw [List.getElem?_take_of_lt (by omega)]; exact h0
  | 1 => rw [List.getElem?_take_of_lt (by omega)]; exact h1
  | 2 => rw [List.getElem?_take_of_lt (by omega)]; exact h2
  | 3 => rw [List.getElem?_take_of_lt (by omega)]; exact h3
  | 4 => rw [List.getElem?_take_of_lt (by omega)]; exact h4
  | i + 5 => rw [List.getElem?_eq_none (by rw [List.length_take]; omega), List.getElem?_eq_none (by simp)]

theorem entry_len (l : List Tok) (h : l.length ≠ 5) : entryT l = none := by
  unfold entryT
  split
  · exact absurd rfl h
  · rfl

theorem entry_yes {a b d : Tok} {x y z : Nat} (ha : catT a = some x) (hb : catT b = some y) (hd : catT d = some z) : entryT [a, [43], b, [58], d] = some ((x, y), z) := by simp [entryT, ha, hb, hd]
theorem entry_na {a b d : Tok} (ha : catT a = none) : entryT [a, [43], b, [58], d] = none := by simp [entryT, ha]
theorem entry_nb {a b d : Tok} {x : Nat} (ha : catT a = some x) (hb : catT b = none) : entryT [a, [43], b, [58], d] = none := by simp [entryT, ha, hb]
theorem entry_nd {a b d : Tok} {x y : Nat} (ha : catT a = some x) (hb : catT b = some y) (hd : catT d = none) : entryT [a, [43], b, [58], d] = none := by simp [entryT, ha, hb, hd]

theorem catZ_some {t : Tok} {n : Nat} (h : catT t = some n) : catZ t = (n : Int) := by unfold catZ; rw [h]
theorem catZ_none {t : Tok} (h : catT t = none) : catZ t = -1 := by unfold catZ; rw [h]

def RRes (B : Nat) (s : List UInt8) (x : Ending) (w : World) : Prop := (∃ g cap l, entriesT s = some l ∧ x = .returned (.tuple #[.slice (some ⟨g, 0, none⟩) l.length cap, .int .i64 0]) ∧ EntL B w g cap l ∧ l.length ≤ 1025) ∨ (entriesT s = none ∧ x = .returned (.tuple #[.slice none 0 0, .int .i64 90]))

set_option maxRecDepth 100000 in
set_option maxHeartbeats 8000000 in
theorem rread_any (s : ByteArray) (w : World) (hs : s.size ≤ 1024) : Calls Tryz.prog 56 #[.string s] w fun x w' => Below w.heap.size w w' ∧ RRes w.heap.size (bys s) x w' := by
  obtain ⟨i0, hi0, hz0, hz1, hz2⟩ := info_parts info_a3
  have hs' : ¬ 1024 < (s.size : Int) := by omega
  have HPT := hide (rparts_any s w hs)
  have HTL := hide (toks_len (bys s))
  rw [bys_len] at HTL
  have HET : Hid (entriesT (bys s) = if (toks (bys s)).2 then none else if (toks (bys s)).1 = [] then some [] else onlyU ((splitT [59] (toks (bys s)).1).mapM entryT)) := hide rfl
  have HCS := hide (cutsAt_split [59] (toks (bys s)).1)
  have HCI := hide (cutsAt_in [59] (toks (bys s)).1 0 0 (Nat.le_refl _))
  have HCL := hide (cutsAt_len [59] (toks (bys s)).1 0 0)
  obtain ⟨ET, hET⟩ : ∃ ET, ET = entriesT (bys s) := ⟨_, rfl⟩
  have HRR : Hid (∀ x W, RRes w.heap.size (bys s) x W = ((∃ g cap l, ET = some l ∧ x = .returned (.tuple #[.slice (some ⟨g, 0, none⟩) l.length cap, .int .i64 0]) ∧ EntL w.heap.size W g cap l ∧ l.length ≤ 1025) ∨ (ET = none ∧ x = .returned (.tuple #[.slice none 0 0, .int .i64 90])))) := hide (fun x W => by unfold RRes; rw [hET])
  rw [← hET] at HET
  clear hET
  obtain ⟨ts, bad, hTK⟩ : ∃ ts bad, toks (bys s) = (ts, bad) := ⟨_, _, rfl⟩
  rw [hTK] at HTL HET HCS HCI HCL
  dsimp only at HTL HET HCS HCI HCL
  have HTK := hide hTK
  clear hTK
  go_enter Tryz.func56, Tryz.ntmps56
  go_wp2_with fail
  refine HPT.out.mono ?_
  intro x w1 hPT
  unfold PartsR at hPT
  rw [HTK.out] at hPT
  dsimp only at hPT
  obtain ⟨v, ok, rfl, hb, (⟨rfl, hbad⟩ | ⟨rfl, hbad, g, cap, rfl, hown⟩)⟩ := hPT
  · subst hbad
    have HB1 := hide hb
    clear hb HPT
    go_wp2
    go_ret2
    refine ⟨HB1.out, ?_⟩
    rw [HRR.out]
    exact .inr ⟨by rw [HET.out]; rfl, rfl⟩
  · subst hbad
    have HB1 := hide hb
    have HO1 := hide hown
    clear hb hown HPT
    have halw : Below w1.heap.size w1 (w1.alloc (.cells #[] 92)) := (Below.refl _ _).alloc (Nat.le_refl _) _
    have HB2 := hide (HB1.out.trans (halw.mono HB1.out.size))
    have HO2 := hide (rown_below HO1.out halw)
    have HE2 : Hid (EntL w.heap.size (w1.alloc (.cells #[] 92)) w1.heap.size 0 []) := World.ownsRow_made w1 #[] 0 HB1.out.size (by decide) rfl
    clear halw HB1 HO1
    obtain ⟨L, hL⟩ : ∃ L, L = ts.length := ⟨_, rfl⟩
    have HLL := hide hL
    by_cases h0 : ts = []
    · have hl0 : ts.length = 0 := by rw [h0]; rfl
      rw [hl0] at hL ⊢
      clear hL
      go_wp2
      go_ret2
      refine ⟨HB2.out, ?_⟩
      rw [HRR.out]
      exact .inl ⟨_, _, [], by rw [HET.out, if_neg (by decide), if_pos h0], rfl, HE2.out, Nat.zero_le _⟩
    · have hl0 : 0 < ts.length := List.length_pos_iff.2 h0
      have hl0' : ¬ ((ts.length : Nat) : Int) = 0 := by omega
      rw [if_neg (by decide), if_neg h0] at HET
      have HTV := hide (rown_tok HO2.out)
      have HSP := hide (rsplit_any g 0 cap ⟨#[59]⟩ ts _ _ HTV.out (by have := HTL.out; omega))
      rw [show bys (⟨#[59]⟩ : ByteArray) = [59] from rfl] at HSP
      obtain ⟨CU, hCU⟩ : ∃ CU, CU = cutsAt [59] 0 0 ts := ⟨_, rfl⟩
      rw [← hCU] at HSP HCS HCI HCL
      obtain ⟨RW, hRW⟩ : ∃ RW, RW = splitT [59] ts := ⟨_, rfl⟩
      rw [← hRW] at HET HCS
      rw [← hL] at hl0 hl0' HO2 HTV HSP ⊢
      clear hL hCU hRW h0
      go_wp2_with fail
      refine HSP.out.mono ?_
      rintro x w2 ⟨gs, cs, rfl, hown, hb⟩
      have HB3 := hide (HB2.out.trans (hb.mono HB2.out.size))
      have HO3 := hide (rown_below HO2.out hb)
      have HE3 : Hid (EntL w.heap.size w2 w1.heap.size 0 []) := rown_below HE2.out hb
      have HC3 := hide hown
      obtain ⟨N, hN⟩ : ∃ N, N = CU.length := ⟨_, rfl⟩
      have HNN := hide hN
      have hNl : N ≤ 1025 := by rw [hN]; have := HCL.out; have := HTL.out; omega
      rw [← hN] at HC3 ⊢
      obtain ⟨B1, hB1⟩ : ∃ B1, B1 = (w1.alloc (.cells #[] 92)).heap.size := ⟨_, rfl⟩
      rw [← hB1] at HC3
      clear hb hown HSP HTV HB2 HO2 HE2 hN hB1
      go_wp2
      go_loopw [6, 8] (fun x y wr => ∃ (i g3 c3 : Nat) (E : List Ent), i ≤ N ∧ E.length ≤ i ∧ x = .slice (some ⟨g3, 0, none⟩) E.length c3 ∧ y = .int .i64 (i : Int) ∧ Hid (EntL w.heap.size wr g3 c3 E) ∧ Hid (Below w.heap.size w wr) ∧ Hid (wr.ownsRow w.heap.size 9 1 (.slice (some ⟨g, 0, none⟩) L cap) L (strC ts)) ∧ Hid (wr.ownsRow B1 112 1 (.slice (some ⟨gs, 0, none⟩) N cs) N (cutC g 0 cap CU)) ∧ Hid ((RW.take i).mapM entryT = some E ∧ unlike E = true)) (fun _ y _ => N - (intOf y).toNat)
      case atStart => exact ⟨0, _, _, [], Nat.zero_le _, Nat.le_refl _, rfl, rfl, HE3, HB3, HO3, HC3, by simp, rfl⟩
      case round =>
        obtain ⟨i, g3, c3, E, hi, hEl, rfl, rfl, HE, HB, HO, HC, HM⟩ := hrel
        clear HE3 HB3 HO3 HC3
        obtain ⟨NE, hNE⟩ : ∃ NE, NE = E.length := ⟨_, rfl⟩
        have HNE := hide hNE
        rw [← hNE] at hEl ⊢
        clear hNE
        by_cases hlt : i < N
        · have hlt' : (i : Int) < (N : Int) := by omega
          obtain ⟨⟨f, t⟩, hft⟩ : ∃ x, CU[i]? = some x := ⟨_, List.getElem?_eq_getElem (by rw [← HNN.out]; exact hlt)⟩
          have hci := HCI.out (f, t) (List.mem_of_getElem? hft)
          dsimp only at hci
          rw [Nat.zero_add, ← HLL.out] at hci
          have hrw : RW[i]? = some ((ts.take t).drop f) := by rw [← HCS.out, List.getElem?_map, hft]; rfl
          have HRW := hide hrw
          have cs0 : wr.cell? ⟨gs, i, none⟩ = some (cutV g 0 cap (f, t)) := by
            have := World.ownsRow.cells HC.out (g := gs) rfl i (cutV g 0 cap (f, t)) (by unfold cutC; rw [List.getElem?_map, hft]; rfl)
            rw [Addr.add_lit, Nat.zero_add] at this
            exact this
          have HTK := rown_tok (ts := ts) (g := g) (cap := cap) (by rw [← HLL.out]; exact HO.out)
          have hLc : L ≤ cap := by have := HTK.2.1; rw [← HLL.out] at this; exact this
          have HTC := hide HTK.2.2.2.2
          have hNc : N ≤ cs := by
            rcases HC.out.2 with ⟨h, _⟩ | ⟨g9, cap9, cur, h, _, _, hn, _⟩
            · simp at h
            · simp at h; omega
          have HERR : Hid (ET = none → ∀ W, Below w.heap.size w W → Below w.heap.size w W ∧ RRes w.heap.size (bys s) (.returned (.tuple #[.slice none 0 0, .int .i64 90])) W) := hide (fun h W hb => ⟨hb, by rw [HRR.out]; exact .inr ⟨h, rfl⟩⟩)
          have HSTP : Hid (entryT ((ts.take t).drop f) = none → ET = none) := hide (fun h => by rw [HET.out, mapM_stop entryT RW i _ HRW.out h]; rfl)
          clear HTK hft hrw
          by_cases h5 : t = f + 5
          · have hfc : ¬ f = cap := by omega
            have cv : cutV g 0 cap (f, t) = .slice (some ⟨g, f, none⟩) 5 (cap - f) := by unfold cutV cutA; rw [if_neg hfc, Nat.zero_add]; dsimp only; rw [show t - f = 5 by omega]
            rw [cv] at cs0
            have tk : ∀ k, k < 5 → ∃ a, ts[f + k]? = some a := fun k hk => ⟨_, List.getElem?_eq_getElem (by rw [← HLL.out]; omega)⟩
            obtain ⟨ta, h0⟩ := tk 0 (by omega)
            obtain ⟨tp, h1⟩ := tk 1 (by omega)
            obtain ⟨tb, h2⟩ := tk 2 (by omega)
            obtain ⟨tc, h3⟩ := tk 3 (by omega)
            obtain ⟨td, h4⟩ := tk 4 (by omega)
            rw [Nat.add_zero] at h0
            have HROW := hide (row_five ts f t ta tp tb tc td h0 h1 h2 h3 h4 h5)
            have CEL : Hid (∀ X : World, X.ownsRow w.heap.size 9 1 (.slice (some ⟨g, 0, none⟩) L cap) L (strC ts) → X.cell? ⟨g, f, none⟩ = some (.string (mkB ta)) ∧ X.cell? ⟨g, f + 1, none⟩ = some (.string (mkB tp)) ∧ X.cell? ⟨g, f + 2, none⟩ = some (.string (mkB tb)) ∧ X.cell? ⟨g, f + 3, none⟩ = some (.string (mkB tc)) ∧ X.cell? ⟨g, f + 4, none⟩ = some (.string (mkB td))) := hide (by
              intro X hX
              have hK := (rown_tok (ts := ts) (g := g) (cap := cap) (by rw [← HLL.out]; exact hX)).2.2.2.2
              have k0 := hK f ta h0
              have k1 := hK (f + 1) tp h1
              have k2 := hK (f + 2) tb h2
              have k3 := hK (f + 3) tc h3
              have k4 := hK (f + 4) td h4
              rw [Nat.zero_add] at k0 k1 k2 k3 k4
              exact ⟨k0, k1, k2, k3, k4⟩)
            obtain ⟨k0, k1, k2, k3, k4⟩ := CEL.out wr HO.out
            have hcp : 5 ≤ cap - f := by omega
            obtain ⟨cp, hcpe⟩ : ∃ cp, cp = cap - f := ⟨_, rfl⟩
            rw [← hcpe] at cs0 hcp
            clear tk h0 h1 h2 h3 h4 cv HTC hcpe
            by_cases e1 : tp = [43]
            · subst e1
              have s1 : wr.cell? ⟨g, f + 1, none⟩ = some (.string ⟨#[43]⟩) := k1
              clear k1
              by_cases e3 : tc = [58]
              · subst e3
                have s3 : wr.cell? ⟨g, f + 3, none⟩ = some (.string ⟨#[58]⟩) := k3
                clear k3
                have C0 : Hid (∀ X, Hid (Below wr.heap.size wr X) → Calls Tryz.prog 110 #[.string (mkB ta)] X fun x w' => x = .returned (.int .i64 (catZ ta)) ∧ Hid (Below X.heap.size X w') ∧ Hid (Below wr.heap.size wr w') ∧ w'.cell? ⟨g, f, none⟩ = some (.string (mkB ta)) ∧ w'.cell? ⟨g, f + 2, none⟩ = some (.string (mkB tb)) ∧ w'.cell? ⟨g, f + 4, none⟩ = some (.string (mkB td))) := by
                  intro X bX
                  refine (rCategory_any (mkB ta) X).mono ?_
                  rintro x w' ⟨rfl, hb⟩
                  have bb := bX.out.trans (hb.mono bX.out.size)
                  obtain ⟨z0, _, z2, _, z4⟩ := CEL.out w' (rown_below HO.out bb)
                  exact ⟨rfl, hb, bb, z0, z2, z4⟩
                have C1 : Hid (∀ X, Hid (Below wr.heap.size wr X) → Calls Tryz.prog 110 #[.string (mkB tb)] X fun x w' => x = .returned (.int .i64 (catZ tb)) ∧ Hid (Below X.heap.size X w') ∧ Hid (Below wr.heap.size wr w') ∧ w'.cell? ⟨g, f, none⟩ = some (.string (mkB ta)) ∧ w'.cell? ⟨g, f + 2, none⟩ = some (.string (mkB tb)) ∧ w'.cell? ⟨g, f + 4, none⟩ = some (.string (mkB td))) := by
                  intro X bX
                  refine (rCategory_any (mkB tb) X).mono ?_
                  rintro x w' ⟨rfl, hb⟩
                  have bb := bX.out.trans (hb.mono bX.out.size)
                  obtain ⟨z0, _, z2, _, z4⟩ := CEL.out w' (rown_below HO.out bb)
                  exact ⟨rfl, hb, bb, z0, z2, z4⟩
                have C2 : Hid (∀ X, Hid (Below wr.heap.size wr X) → Calls Tryz.prog 110 #[.string (mkB td)] X fun x w' => x = .returned (.int .i64 (catZ td)) ∧ Hid (Below X.heap.size X w') ∧ Hid (Below wr.heap.size wr w') ∧ w'.cell? ⟨g, f, none⟩ = some (.string (mkB ta)) ∧ w'.cell? ⟨g, f + 2, none⟩ = some (.string (mkB tb)) ∧ w'.cell? ⟨g, f + 4, none⟩ = some (.string (mkB td))) := by
                  intro X bX
                  refine (rCategory_any (mkB td) X).mono ?_
                  rintro x w' ⟨rfl, hb⟩
                  have bb := bX.out.trans (hb.mono bX.out.size)
                  obtain ⟨z0, _, z2, _, z4⟩ := CEL.out w' (rown_below HO.out bb)
                  exact ⟨rfl, hb, bb, z0, z2, z4⟩
                have HGL : Hid (g < wr.heap.size) := hide (World.ownsRow.lt HO.out g rfl).2
                have b0 := bdrE wr
                have nGwr : ¬ g = wr.heap.size := (by have := HGL.out; omega)
                have mGwr : ¬ wr.heap.size = g := (by have := HGL.out; omega)
                go_wp2_with fail
                go_cut [10] (fun vp wx => CutX wr #[.int .i64 (catZ ta), .int .i64 (catZ tb), .int .i64 (catZ td)] vp wx)
                case first =>
                  have mk0 : True := trivial
                  go_region_held3 (fun w' => w'.cell? ⟨g, f, none⟩ = some (.string (mkB ta)) ∧ w'.cell? ⟨g, f + 2, none⟩ = some (.string (mkB tb)) ∧ w'.cell? ⟨g, f + 4, none⟩ = some (.string (mkB td))) (go_keep) (first
                      | (clear mk0; go_at_call 110; refine (C0.out _ (balE b0 (Obj.cells #[Value.int .i64 0, Value.int .i64 0, Value.int .i64 0] 92))).mono ?_; rintro x u1 ⟨rfl, R1, b1, q0_0, q0_1, q0_2⟩; have QN := (Blk.newAt wr.drew wr.heap.size rfl #[.int .i64 0, .int .i64 0, .int .i64 0] 92).below R1.out (Blk.newAt wr.drew wr.heap.size rfl #[.int .i64 0, .int .i64 0, .int .i64 0] 92).lt; have h0 : u1.cell? ⟨wr.heap.size, 0, none⟩ = some (.int .i64 0) := QN.cell 0; have h1 : u1.cell? ⟨wr.heap.size, 1, none⟩ = some (.int .i64 0) := QN.cell 1; have h2 : u1.cell? ⟨wr.heap.size, 2, none⟩ = some (.int .i64 0) := QN.cell 2; have h3 := QN.free 0; have h4 := QN.free 1; have h5 := QN.free 2; have QH := hide QN; clear QN; have mk1L0 : True := trivial)
                      | (clear mk0; go_at_call 110; refine (C0.out _ b0).mono ?_; rintro x u1 ⟨rfl, R1, b1, q0_0, q0_1, q0_2⟩; have nGu1 : ¬ g = u1.heap.size := (by have := HGL.out; have := b1.out.size; omega); have mGu1 : ¬ u1.heap.size = g := (by have := HGL.out; have := b1.out.size; omega); have mk1 : True := trivial)
                      | (clear mk1L0; go_at_call 110; refine (C1.out _ b1).mono ?_; rintro x u2 ⟨rfl, R2, b2, q1_0, q1_1, q1_2⟩; clear h0 h1 h2 h3 h4 h5; have QN := QH.out.below R2.out QH.out.lt; have h0 : u2.cell? ⟨wr.heap.size, 0, none⟩ = some (.int .i64 0) := QN.cell 0; have h1 : u2.cell? ⟨wr.heap.size, 1, none⟩ = some (.int .i64 0) := QN.cell 1; have h2 : u2.cell? ⟨wr.heap.size, 2, none⟩ = some (.int .i64 0) := QN.cell 2; have h3 := QN.free 0; have h4 := QN.free 1; have h5 := QN.free 2; have QH := hide QN; clear QN; have mk2L0 : True := trivial)
                      | (clear mk1; go_at_call 110; refine (C1.out _ (balE b1 (Obj.cells #[Value.int .i64 0, Value.int .i64 0, Value.int .i64 0] 92))).mono ?_; rintro x u2 ⟨rfl, R2, b2, q1_0, q1_1, q1_2⟩; have QN := (Blk.newAt u1 u1.heap.size rfl #[.int .i64 0, .int .i64 0, .int .i64 0] 92).below R2.out (Blk.newAt u1 u1.heap.size rfl #[.int .i64 0, .int .i64 0, .int .i64 0] 92).lt; have h0 : u2.cell? ⟨u1.heap.size, 0, none⟩ = some (.int .i64 0) := QN.cell 0; have h1 : u2.cell? ⟨u1.heap.size, 1, none⟩ = some (.int .i64 0) := QN.cell 1; have h2 : u2.cell? ⟨u1.heap.size, 2, none⟩ = some (.int .i64 0) := QN.cell 2; have h3 := QN.free 0; have h4 := QN.free 1; have h5 := QN.free 2; have QH := hide QN; clear QN; have mk2L1 : True := trivial)
                      | (clear mk1; go_at_call 110; refine (C1.out _ b1).mono ?_; rintro x u2 ⟨rfl, R2, b2, q1_0, q1_1, q1_2⟩; have nGu2 : ¬ g = u2.heap.size := (by have := HGL.out; have := b2.out.size; omega); have mGu2 : ¬ u2.heap.size = g := (by have := HGL.out; have := b2.out.size; omega); have mk2 : True := trivial)
                      | (clear mk2L0; go_at_call 110; refine (C2.out _ b2).mono ?_; rintro x u3 ⟨rfl, R3, b3, q2_0, q2_1, q2_2⟩; clear h0 h1 h2 h3 h4 h5; have QN := QH.out.below R3.out QH.out.lt; have h0 : u3.cell? ⟨wr.heap.size, 0, none⟩ = some (.int .i64 0) := QN.cell 0; have h1 : u3.cell? ⟨wr.heap.size, 1, none⟩ = some (.int .i64 0) := QN.cell 1; have h2 : u3.cell? ⟨wr.heap.size, 2, none⟩ = some (.int .i64 0) := QN.cell 2; have h3 := QN.free 0; have h4 := QN.free 1; have h5 := QN.free 2; have QH := hide QN; clear QN; have mk3L0 : True := trivial)
                      | (clear mk2L1; go_at_call 110; refine (C2.out _ b2).mono ?_; rintro x u3 ⟨rfl, R3, b3, q2_0, q2_1, q2_2⟩; clear h0 h1 h2 h3 h4 h5; have QN := QH.out.below R3.out QH.out.lt; have h0 : u3.cell? ⟨u1.heap.size, 0, none⟩ = some (.int .i64 0) := QN.cell 0; have h1 : u3.cell? ⟨u1.heap.size, 1, none⟩ = some (.int .i64 0) := QN.cell 1; have h2 : u3.cell? ⟨u1.heap.size, 2, none⟩ = some (.int .i64 0) := QN.cell 2; have h3 := QN.free 0; have h4 := QN.free 1; have h5 := QN.free 2; have QH := hide QN; clear QN; have mk3L1 : True := trivial)
                      | (clear mk2; go_at_call 110; refine (C2.out _ (balE b2 (Obj.cells #[Value.int .i64 0, Value.int .i64 0, Value.int .i64 0] 92))).mono ?_; rintro x u3 ⟨rfl, R3, b3, q2_0, q2_1, q2_2⟩; have QN := (Blk.newAt u2 u2.heap.size rfl #[.int .i64 0, .int .i64 0, .int .i64 0] 92).below R3.out (Blk.newAt u2 u2.heap.size rfl #[.int .i64 0, .int .i64 0, .int .i64 0] 92).lt; have h0 : u3.cell? ⟨u2.heap.size, 0, none⟩ = some (.int .i64 0) := QN.cell 0; have h1 : u3.cell? ⟨u2.heap.size, 1, none⟩ = some (.int .i64 0) := QN.cell 1; have h2 : u3.cell? ⟨u2.heap.size, 2, none⟩ = some (.int .i64 0) := QN.cell 2; have h3 := QN.free 0; have h4 := QN.free 1; have h5 := QN.free 2; have QH := hide QN; clear QN; have mk3L2 : True := trivial)
                      | (clear mk2; go_at_call 110; refine (C2.out _ b2).mono ?_; rintro x u3 ⟨rfl, R3, b3, q2_0, q2_1, q2_2⟩; have nGu3 : ¬ g = u3.heap.size := (by have := HGL.out; have := b3.out.size; omega); have mGu3 : ¬ u3.heap.size = g := (by have := HGL.out; have := b3.out.size; omega); have mk3 : True := trivial))
                  all_goals (go_wp2_with fail; go_meet)
                  all_goals (first | (clear mk3L0; exact cutx_old b3.out QH.out (Nat.le_refl _)) | (clear mk3L1; exact cutx_old b3.out QH.out b1.out.size) | (clear mk3L2; exact cutx_old b3.out QH.out b2.out.size) | (clear mk3; exact cutx_new b3.out))
                case rest =>
                  obtain ⟨⟨X, rfl, hqX, hXl, hbc⟩⟩ := hcut
                  have HX := hide hqX
                  have x0 := hqX.cell 0
                  have x1 := hqX.cell 1
                  have x2 := hqX.cell 2
                  have HEc : Hid (EntL w.heap.size wc g3 c3 E) := rown_below HE.out hbc
                  have HBc := hide (HB.out.trans (hbc.mono HB.out.size))
                  have HOc := hide (rown_below HO.out hbc)
                  have HCc := hide (rown_below HC.out hbc)
                  have HER2 : Hid (entryT ((ts.take t).drop f) = none → Below w.heap.size w wc ∧ RRes w.heap.size (bys s) (.returned (.tuple #[.slice none 0 0, .int .i64 90])) wc) := hide (fun h => HERR.out (HSTP.out h) wc HBc.out)
                  clear hqX hbc HE HB HO HC C0 C1 C2 b0 CEL k0 k2 k4 s1 s3 cs0
                  cases hca : catT ta with
                  | none =>
                    have hz := catZ_none hca
                    have HX2 := hide (HER2.out (by rw [HROW.out]; exact entry_na hca))
                    rw [hz] at x0
                    clear hca hz
                    go_wp2
                    go_ret2
                    exact HX2.out
                  | some A =>
                    have hz := catZ_some hca
                    rw [hz] at x0
                    have l0 : ¬ (A : Int) < 0 := by omega
                    cases hcb : catT tb with
                    | none =>
                      have hz2 := catZ_none hcb
                      have HX2 := hide (HER2.out (by rw [HROW.out]; exact entry_nb hca hcb))
                      rw [hz2] at x1
                      clear hca hz hcb hz2
                      go_wp2
                      go_ret2
                      exact HX2.out
                    | some Bq =>
                      have hz2 := catZ_some hcb
                      rw [hz2] at x1
                      have l1 : ¬ (Bq : Int) < 0 := by omega
                      cases hcd : catT td with
                      | none =>
                        have hz3 := catZ_none hcd
                        have HX2 := hide (HER2.out (by rw [HROW.out]; exact entry_nd hca hcb hcd))
                        rw [hz3] at x2
                        clear hca hz hcb hz2 hcd hz3
                        go_wp2
                        go_ret2
                        exact HX2.out
                      | some Cq =>
                        have hz3 := catZ_some hcd
                        rw [hz3] at x2
                        have l2 : ¬ (Cq : Int) < 0 := by omega
                        have HEN2 : Hid (entryT ((ts.take t).drop f) = some ((A, Bq), Cq)) := hide (by rw [HROW.out]; exact entry_yes hca hcb hcd)
                        have HXB : Hid (Blk wc X #[.int .i64 (A : Int), .int .i64 (Bq : Int), .int .i64 (Cq : Int)] 92) := hide (by have := HX.out; rw [hz, hz2, hz3] at this; exact this)
                        clear hca hz hcb hz2 hcd hz3 HER2 HX
                        go_wp2
                        clear x0 x1 x2
                        go_loopw [11] (fun z wq => ∃ k : Nat, k ≤ NE ∧ z = .int .i64 (k : Int) ∧ Hid (Below wc.heap.size wc wq) ∧ Hid (∀ j e, j < k → E[j]? = some e → e.1 ≠ (A, Bq))) (fun z _ => NE - (intOf z).toNat)
                        case atStart => exact ⟨0, Nat.zero_le _, rfl, Below.refl _ _, hide (fun j e h => by omega)⟩
                        case round =>
                          obtain ⟨k, hk, rfl, HW, HAL⟩ := hrel
                          have HEi : Hid (EntL w.heap.size wr g3 c3 E) := rown_below HEc.out HW.out
                          have HBi := hide (HBc.out.trans (HW.out.mono HBc.out.size))
                          have HOi := hide (rown_below HOc.out HW.out)
                          have HCi := hide (rown_below HCc.out HW.out)
                          have HXi := hide (HXB.out.below HW.out HXB.out.lt)
                          have x0 := HXi.out.cell 0
                          have x1 := HXi.out.cell 1
                          have x2 := HXi.out.cell 2
                          have hc3 : NE ≤ c3 := by
                            have h := HEi.out
                            unfold EntL at h
                            rcases h.2 with ⟨h, _⟩ | ⟨g9, cap9, cur, h, _, _, hn, _⟩
                            · simp at h
                            · simp at h; rw [HNE.out]; omega
                          by_cases hkl : k < NE
                          · have hkl' : (k : Int) < (NE : Int) := by omega
                            obtain ⟨e, he⟩ : ∃ e, E[k]? = some e := ⟨_, List.getElem?_eq_getElem (by rw [← HNE.out]; exact hkl)⟩
                            obtain ⟨a0, a1, _⟩ := EntL.at HEi.out k e he
                            have HEE := hide he
                            clear he x2
                            obtain ⟨⟨ea, eb⟩, ec⟩ := e
                            dsimp only at a0 a1
                            have HW2 : Hid (Below wc.heap.size wc wr.drew) := HW.out.drew
                            by_cases q1 : ea = A
                            · subst q1
                              by_cases q2 : eb = Bq
                              · subst q2
                                have HX2 := hide (HERR.out (by rw [HET.out]; exact only_twice entryT RW i _ E ((ea, eb), Cq) HRW.out HM.out.1 HEN2.out ((ea, eb), ec) (List.mem_of_getElem? HEE.out) rfl) wr.drew HBi.out.drew)
                                clear HEi HBi HOi HCi HW HAL HM
                                go_wp2_with fail
                                go_region
                                go_wp2
                                go_ret2
                                exact HX2.out
                              · have q2' : ((eb : Int) == (Bq : Int)) = false := beq_eq_false_iff_ne.2 (by omega)
                                have q2'' : ¬ (eb : Int) = (Bq : Int) := by omega
                                have HAL2 : Hid (∀ j e, j < k + 1 → E[j]? = some e → e.1 ≠ (ea, Bq)) := hide (fun j e hj he => by
                                  by_cases h : j = k
                                  · subst h
                                    rw [HEE.out, Option.some.injEq] at he
                                    rw [← he]
                                    exact fun h => q2 (Prod.ext_iff.1 h).2
                                  · exact HAL.out j e (by omega) he)
                                clear HEi HBi HOi HCi HW HAL
                                go_wp2_with fail
                                go_region
                                go_wp2
                                exact ⟨⟨k + 1, by omega, by go_num, HW2, HAL2⟩, by (simp [intOf] <;> omega)⟩
                            · have q1' : ((ea : Int) == (A : Int)) = false := beq_eq_false_iff_ne.2 (by omega)
                              have q1'' : ¬ (ea : Int) = (A : Int) := by omega
                              have HAL2 : Hid (∀ j e, j < k + 1 → E[j]? = some e → e.1 ≠ (A, Bq)) := hide (fun j e hj he => by
                                by_cases h : j = k
                                · subst h
                                  rw [HEE.out, Option.some.injEq] at he
                                  rw [← he]
                                  exact fun h => q1 (Prod.ext_iff.1 h).1
                                · exact HAL.out j e (by omega) he)
                              clear HEi HBi HOi HCi HW HAL
                              go_wp2_with fail
                              go_region
                              go_wp2
                              exact ⟨⟨k + 1, by omega, by go_num, HW2, HAL2⟩, by (simp [intOf] <;> omega)⟩
                          · have hkl' : ¬ (k : Int) < (NE : Int) := by omega
                            have HMN : Hid ((RW.take (i + 1)).mapM entryT = some (E ++ [((A, Bq), Cq)]) ∧ unlike (E ++ [((A, Bq), Cq)]) = true) := hide ⟨mapM_next entryT RW i _ E HRW.out HM.out.1 _ HEN2.out, unlike_add _ E HM.out.2 (fun e he => by
                              obtain ⟨j, hj⟩ := List.getElem?_of_mem he
                              have hjl : j < E.length := by
                                rcases Nat.lt_or_ge j E.length with q | q
                                · exact q
                                · rw [List.getElem?_eq_none q] at hj; cases hj
                              exact HAL.out j e (by have := HNE.out; omega) hj)⟩
                            have halw : Below wr.heap.size wr (wr.alloc (.cells #[.int .i64 (A : Int), .int .i64 (Bq : Int), .int .i64 (Cq : Int)] 92)) := (Below.refl _ _).alloc (Nat.le_refl _) _
                            have GE : Hid ((wr.alloc (.cells #[.int .i64 (A : Int), .int .i64 (Bq : Int), .int .i64 (Cq : Int)] 92)).ownsRow w.heap.size 92 3 (.slice (some ⟨g3, 0, none⟩) NE c3) NE (cellsN E)) := hide (by rw [HNE.out]; exact rown_below HEi.out halw)
                            have GO := hide (rown_below HOi.out halw)
                            have GC := hide (rown_below HCi.out halw)
                            have GW := hide (HBi.out.trans (halw.mono HBi.out.size))
                            have BQ := hide (Blk.newAt wr wr.heap.size rfl #[.int .i64 (A : Int), .int .i64 (Bq : Int), .int .i64 (Cq : Int)] 92)
                            have hwz : w.heap.size ≤ wr.heap.size := HBi.out.size
                            clear halw HEi HBi HOi HCi HW HAL HXi HM
                            go_wp2_with (at_builtin; refine wpList_append_own _ rfl _ _ 89 rfl w.heap.size 92 i0 (.agg #[.int .i64 0, .int .i64 0, .int .i64 0]) 3 24 Tryz.underlying89 hi0 hz0 hz1 hz2 rfl (by decide) _ NE (cellsN E) rfl GE.out ⟨wr.heap.size, 0, none⟩ 1 1 [.int .i64 (A : Int), .int .i64 (Bq : Int), .int .i64 (Cq : Int)] rfl rfl ?_ ?_ ?_ ?_ ?_ ?_)
                            all_goals try (intro j u hj; rw [Addr.add_lit, Nat.zero_add, BQ.out.cell j, ← hj]; simp; done)
                            all_goals try (intro u hu; simp at hu; rcases hu with rfl | rfl | rfl <;> rfl)
                            all_goals try exact ⟨rfl, rfl, rfl⟩
                            all_goals try (unfold maxLen; omega)
                            all_goals try (exact GW.out.size)
                            all_goals try omega
                            · intro v' w4 hown hgr hnil
                              obtain ⟨g4, c4, rfl, hg4, hg4l, hc4⟩ := rown_form hown (fun e => hnil e)
                              have hlo : ∀ q, (Value.slice (some ⟨g3, 0, none⟩) NE c3).ownBlock = some q → w.heap.size ≤ q := fun q hq => (World.ownsRow.lt GE.out q hq).1
                              have GW4 := hide (GW.out.grown hgr GW.out.size hlo)
                              have GO4 := hide (World.ownsRow.kept GO.out hgr (rown_apart GO.out GE.out (by decide)))
                              have GC4 := hide (World.ownsRow.kept GC.out hgr (rown_apart GC.out GE.out (by decide)))
                              have el : (E ++ [((A, Bq), Cq)]).length = NE + 1 := by rw [List.length_append, ← HNE.out]; rfl
                              have GE4 : Hid (EntL w.heap.size w4 g4 c4 (E ++ [((A, Bq), Cq)])) := hide (by
                                unfold EntL
                                rw [el, cellsN_app]
                                exact hown)
                              have EL := hide el
                              clear hown hgr hnil hlo GE GO GC GW BQ el
                              go_wp2
                              exact ⟨⟨i + 1, g4, c4, E ++ [((A, Bq), Cq)], by omega, by rw [EL.out]; omega, by rw [EL.out], by go_num, GE4, GW4, GO4, GC4, HMN⟩, by (simp [intOf] <;> omega)⟩
              · have hq0 : ((mkB tc).toList == [58]) = false := by rw [ByteArray.toList_eq]; exact beq_eq_false_iff_ne.2 e3
                have hq1 : ((mkB tc).toList != [58]) = true := by rw [bne, hq0]; rfl
                have HX := hide (HERR.out (HSTP.out (by rw [HROW.out]; simp only [entryT]; rw [if_neg (fun h => e3 h.2)])) wr HB.out)
                go_wp2
                go_ret2
                exact HX.out
            · have hq0 : ((mkB tp).toList == [43]) = false := by rw [ByteArray.toList_eq]; exact beq_eq_false_iff_ne.2 e1
              have hq1 : ((mkB tp).toList != [43]) = true := by rw [bne, hq0]; rfl
              have HX := hide (HERR.out (HSTP.out (by rw [HROW.out]; simp only [entryT]; rw [if_neg (fun h => e1 h.1)])) wr HB.out)
              go_wp2
              go_ret2
              exact HX.out
          · have cv : cutV g 0 cap (f, t) = .slice (some ⟨g, cutA 0 cap f, none⟩) (t - f) (cap - f) := rfl
            rw [cv] at cs0
            obtain ⟨m, hm⟩ : ∃ m, m = t - f := ⟨_, rfl⟩
            rw [← hm] at cs0
            have hm5 : ¬ (m : Int) = 5 := by omega
            have HX := hide (HERR.out (HSTP.out (entry_len _ (by rw [List.length_drop, List.length_take, ← HLL.out]; omega))) wr HB.out)
            clear cv hm
            generalize cutA 0 cap f = AA at *
            generalize cap - f = cp at *
            go_wp2
            go_ret2
            exact HX.out
        · have hlt' : ¬ (i : Int) < (N : Int) := by omega
          obtain rfl : i = N := by omega
          have hRl : RW.length = i := by rw [← HCS.out, List.length_map, ← HNN.out]
          have hall : ET = some E := by rw [HET.out]; exact only_all entryT RW E (by rw [hRl]; exact HM.out.1) HM.out.2
          have HALL := hide hall
          clear hall hRl
          go_wp2
          go_ret2
          refine ⟨HB.out, ?_⟩
          rw [HRR.out]
          exact .inl ⟨g3, c3, E, HALL.out, by rw [← HNE.out]; rfl, HE.out, by rw [← HNE.out]; omega⟩

end Go.Proofs.YtkbciljfjijclaaGreatDoor

namespace Go.Proofs.YtkbciljfjijclaaGreatDoor
open Go.RowKit

set_option maxHeartbeats 1000000 in
theorem rread_long (s : ByteArray) (w : World) (h : 1024 < s.size) : Calls Tryz.prog 56 #[.string s] w fun x w' => x = .returned (.tuple #[.slice none 0 0, .int .i64 91]) ∧ w = w' := by
  have h' : 1024 < (s.size : Int) := by omega
  go_enter Tryz.func56, Tryz.ntmps56
  go_wp2
  go_ret2
  exact ⟨rfl, rfl⟩

set_option maxHeartbeats 1000000 in
theorem rCheckRanges_any (s : ByteArray) (w : World) : Calls Tryz.prog 21 #[.string s] w fun x w' => x = .returned (.int .i64 (echeckT (bys s))) ∧ Below w.heap.size w w' := by
  by_cases h : 1024 < s.size
  · have HR := hide (rread_long s w h)
    have e : echeckT (bys s) = 91 := by unfold echeckT; rw [if_pos (by rw [bys_len]; exact h)]
    rw [e]
    go_enter Tryz.func21, Tryz.ntmps21
    go_wp2_with fail
    refine HR.out.mono ?_
    rintro x w1 ⟨rfl, rfl⟩
    go_wp2
    go_ret
    exact ⟨rfl, Below.refl _ _⟩
  · have HR := hide (rread_any s w (by omega))
    have HE : Hid (echeckT (bys s) = match entriesT (bys s) with | none => 90 | some _ => 0) := hide (by unfold echeckT; rw [if_neg (by rw [bys_len]; exact h)]; cases entriesT (bys s) <;> rfl)
    go_enter Tryz.func21, Tryz.ntmps21
    go_wp2_with fail
    refine HR.out.mono ?_
    rintro x w1 ⟨hb, (⟨g, cap, l, hl, rfl, hE, hn⟩ | ⟨hl, rfl⟩)⟩
    · have HB := hide hb
      have HL := hide hl
      clear hb hl hE hn HR
      go_wp2
      go_ret
      exact ⟨by rw [HE.out, HL.out]; rfl, HB.out⟩
    · have HB := hide hb
      have HL := hide hl
      clear hb hl HR
      go_wp2
      go_ret
      exact ⟨by rw [HE.out, HL.out]; rfl, HB.out⟩

theorem rpick_none (s : List UInt8) (a b : Int) (h : ¬ 1024 < s.length) (he : entriesT s = none) : rpickT s a b = (0, 90) := by unfold rpickT; rw [if_neg h, he]
theorem rpick_bad (s : List UInt8) (a b : Int) (h : ¬ 1024 < s.length) (l : List Ent) (he : entriesT s = some l) (hn : ¬ ((0 ≤ a ∧ a < 6) ∧ (0 ≤ b ∧ b < 6))) : rpickT s a b = (0, 1) := by unfold rpickT; rw [if_neg h, he]; simp only; rw [if_neg hn]
theorem rpick_ok (s : List UInt8) (a b : Nat) (h : ¬ 1024 < s.length) (l : List Ent) (he : entriesT s = some l) (ha : a < 6) (hb : b < 6) : rpickT s (a : Int) (b : Int) = ((entryH a b l : Int), 0) := by unfold rpickT; rw [if_neg h, he]; simp only; rw [if_pos ⟨⟨by omega, by omega⟩, ⟨by omega, by omega⟩⟩]; rfl

theorem entryH_miss (a b : Nat) : ∀ l : List Ent, (∀ (j : Nat) u, l[j]? = some u → ¬ u.1 = (a, b)) → entryH a b l = b
  | [], _ => rfl
  | y :: ys, h => by
    rw [entryH, if_neg (h 0 y rfl)]
    exact entryH_miss a b ys (fun j u hj => h (j + 1) u (by simpa using hj))

set_option maxRecDepth 100000 in
set_option maxHeartbeats 2000000 in
theorem rPickRange_ok (s : ByteArray) (a b : Nat) (w : World) (h : ¬ 1024 < s.size) (ha : a < 6) (hb : b < 6) : Calls Tryz.prog 19 #[.string s, .int .i64 (a : Int), .int .i64 (b : Int)] w fun x w' => x = .returned (.tuple #[.int .i64 (rpickT (bys s) (a : Int) (b : Int)).1, .int .i64 (rpickT (bys s) (a : Int) (b : Int)).2]) ∧ Below w.heap.size w w' := by
  have HR := hide (rread_any s w (by omega))
  have hbl : ¬ 1024 < (bys s).length := by rw [bys_len]; exact h
  have HP1 := hide (rpick_none (bys s) (a : Int) (b : Int) hbl)
  have HP2 := hide (fun l he => rpick_ok (bys s) a b hbl l he ha hb)
  obtain ⟨RP, hRP⟩ : ∃ RP, RP = rpickT (bys s) (a : Int) (b : Int) := ⟨_, rfl⟩
  rw [← hRP] at HP1 HP2 ⊢
  clear hRP hbl
  have t1 : ¬ (a : Int) < 0 := by omega
  have t2 : ¬ 5 < (a : Int) := by omega
  have t3 : ¬ (b : Int) < 0 := by omega
  have t4 : ¬ 5 < (b : Int) := by omega
  go_enter Tryz.func19, Tryz.ntmps19
  go_wp2_with fail
  refine HR.out.mono ?_
  rintro x w1 ⟨hb1, (⟨g, cap, l, hl, rfl, hE, hn⟩ | ⟨hl, rfl⟩)⟩
  · have HB := hide hb1
    have HE := hide hE
    have HP := hide (HP2.out l hl)
    obtain ⟨N, hN⟩ : ∃ N, N = l.length := ⟨_, rfl⟩
    have HNN := hide hN
    rw [← hN] at hn ⊢
    have hNc : N ≤ cap := by
      unfold EntL at hE
      rcases hE.2 with ⟨h, _⟩ | ⟨g9, cap9, cur, h, _, _, hn, _⟩
      · simp at h
      · simp at h; rw [hN]; omega
    clear hb1 hl hE hN HR HP1 HP2
    go_wp2
    go_loopw [10] (fun z wq => ∃ k : Nat, k ≤ N ∧ z = .int .i64 (k : Int) ∧ wq = w1 ∧ Hid (∀ j u, j < k → l[j]? = some u → ¬ u.1 = (a, b))) (fun z _ => N - (intOf z).toNat)
    case atStart => exact ⟨0, Nat.zero_le _, rfl, rfl, hide (fun j e h => by omega)⟩
    case round =>
      obtain ⟨k, hk, rfl, hw, HAL⟩ := hrel
      subst hw
      by_cases hkl : k < N
      · have hkl' : (k : Int) < (N : Int) := by omega
        obtain ⟨e, he⟩ : ∃ e, l[k]? = some e := ⟨_, List.getElem?_eq_getElem (by rw [← HNN.out]; exact hkl)⟩
        obtain ⟨a0, a1, a2⟩ := EntL.at HE.out k e he
        have HEE := hide he
        clear he
        obtain ⟨⟨ea, eb⟩, ec⟩ := e
        dsimp only at a0 a1 a2
        by_cases q1 : ea = a
        · subst q1
          by_cases q2 : eb = b
          · subst q2
            have HH := hide (entryH_hit ea eb l k ((ea, eb), ec) HEE.out HAL.out rfl)
            clear HAL
            go_wp2
            go_ret2
            exact ⟨by rw [HP.out, HH.out]; rfl, HB.out⟩
          · have q2' : ((eb : Int) == (b : Int)) = false := beq_eq_false_iff_ne.2 (by omega)
            have HAL2 : Hid (∀ j u, j < k + 1 → l[j]? = some u → ¬ u.1 = (ea, b)) := hide (fun j e hj he => by
              by_cases h : j = k
              · subst h
                rw [HEE.out, Option.some.injEq] at he
                rw [← he]
                exact fun h => q2 (Prod.ext_iff.1 h).2
              · exact HAL.out j e (by omega) he)
            clear HAL
            go_wp2
            exact ⟨⟨k + 1, by omega, by go_num, trivial, HAL2⟩, by (simp [intOf] <;> omega)⟩
        · have q1' : ((ea : Int) == (a : Int)) = false := beq_eq_false_iff_ne.2 (by omega)
          have HAL2 : Hid (∀ j u, j < k + 1 → l[j]? = some u → ¬ u.1 = (a, b)) := hide (fun j e hj he => by
            by_cases h : j = k
            · subst h
              rw [HEE.out, Option.some.injEq] at he
              rw [← he]
              exact fun h => q1 (Prod.ext_iff.1 h).1
            · exact HAL.out j e (by omega) he)
          clear HAL
          go_wp2
          exact ⟨⟨k + 1, by omega, by go_num, trivial, HAL2⟩, by (simp [intOf] <;> omega)⟩
      · have hkl' : ¬ (k : Int) < (N : Int) := by omega
        have HM := hide (entryH_miss a b l (fun j u hj => HAL.out j u (by
          have : j < l.length := by
            rcases Nat.lt_or_ge j l.length with q | q
            · exact q
            · rw [List.getElem?_eq_none q] at hj; cases hj
          have := HNN.out; omega) hj))
        clear HAL
        go_wp2
        go_ret2
        exact ⟨by rw [HP.out, HM.out]; rfl, HB.out⟩
  · have HB := hide hb1
    have HP := hide (HP1.out hl)
    clear hb1 hl HR HP1 HP2
    go_wp2
    go_ret2
    exact ⟨by rw [HP.out]; rfl, HB.out⟩

set_option maxRecDepth 100000 in
set_option maxHeartbeats 2000000 in
theorem rPickRange_any (s : ByteArray) (a b : Int) (w : World) : Calls Tryz.prog 19 #[.string s, .int .i64 a, .int .i64 b] w fun x w' => x = .returned (.tuple #[.int .i64 (rpickT (bys s) a b).1, .int .i64 (rpickT (bys s) a b).2]) ∧ Below w.heap.size w w' := by
  by_cases h : 1024 < s.size
  · have HR := hide (rread_long s w h)
    have e : rpickT (bys s) a b = (0, 91) := by unfold rpickT; rw [if_pos (by rw [bys_len]; exact h)]
    rw [e]
    go_enter Tryz.func19, Tryz.ntmps19
    go_wp2_with fail
    refine HR.out.mono ?_
    rintro x w1 ⟨rfl, rfl⟩
    go_wp2
    go_ret2
    exact ⟨rfl, Below.refl _ _⟩
  by_cases hab : (0 ≤ a ∧ a < 6) ∧ (0 ≤ b ∧ b < 6)
  · obtain ⟨x, rfl⟩ : ∃ x : Nat, a = (x : Int) := ⟨a.toNat, by omega⟩
    obtain ⟨y, rfl⟩ : ∃ y : Nat, b = (y : Int) := ⟨b.toNat, by omega⟩
    exact rPickRange_ok s x y w h (by omega) (by omega)
  have HR := hide (rread_any s w (by omega))
  have hbl : ¬ 1024 < (bys s).length := by rw [bys_len]; exact h
  have HP1 := hide (rpick_none (bys s) a b hbl)
  have HP2 := hide (fun l he => rpick_bad (bys s) a b hbl l he hab)
  obtain ⟨RP, hRP⟩ : ∃ RP, RP = rpickT (bys s) a b := ⟨_, rfl⟩
  rw [← hRP] at HP1 HP2 ⊢
  clear hRP hbl
  have hcs : a < 0 ∨ (0 ≤ a ∧ 5 < a) ∨ (0 ≤ a ∧ a ≤ 5 ∧ b < 0) ∨ (0 ≤ a ∧ a ≤ 5 ∧ 0 ≤ b ∧ 5 < b) := by omega
  go_enter Tryz.func19, Tryz.ntmps19
  go_wp2_with fail
  refine HR.out.mono ?_
  rintro x w1 ⟨hb1, (⟨g, cap, l, hl, rfl, hE, hn⟩ | ⟨hl, rfl⟩)⟩
  · have HB := hide hb1
    have HP := hide (HP2.out l hl)
    clear hb1 hl hE HR HP1 HP2
    rcases hcs with t1 | ⟨t1, t2⟩ | ⟨t1, t2, t3⟩ | ⟨t1, t2, t3, t4⟩
    · go_wp2
      go_ret2
      exact ⟨by rw [HP.out]; rfl, HB.out⟩
    · have u1 : ¬ a < 0 := by omega
      go_wp2
      go_ret2
      exact ⟨by rw [HP.out]; rfl, HB.out⟩
    · have u1 : ¬ a < 0 := by omega
      have u2 : ¬ 5 < a := by omega
      go_wp2
      go_ret2
      exact ⟨by rw [HP.out]; rfl, HB.out⟩
    · have u1 : ¬ a < 0 := by omega
      have u2 : ¬ 5 < a := by omega
      have u3 : ¬ b < 0 := by omega
      go_wp2
      go_ret2
      exact ⟨by rw [HP.out]; rfl, HB.out⟩
  · have HB := hide hb1
    have HP := hide (HP1.out hl)
    clear hb1 hl HR HP1 HP2 hcs
    go_wp2
    go_ret2
    exact ⟨by rw [HP.out]; rfl, HB.out⟩

end Go.Proofs.YtkbciljfjijclaaGreatDoor

namespace Go.Proofs.YtkbciljfjijclaaGreatDoor
open Go.RowKit

set_option maxRecDepth 100000 in
set_option maxHeartbeats 2000000 in
theorem ranges_row (w : World) (he : Evs w) (s : ByteArray) (_ : s.size ≤ 140737488355328) (a b : Int) : Calls Tryz.prog 6 #[.string s, .int .i64 a, .int .i64 b] w fun e w' => e = .returned (.bool true) ∧ Below w.heap.size w w' := by
  have HE := hide he
  have K1 := hide (PickRange_any s a b w he)
  have K2 := hide (fun X => rPickRange_any s a b X)
  have K3 := hide (fun X (h : Below w.heap.size w X) => awake09 X (HE.out.below h))
  have K4 := hide (fun X (h : Below w.heap.size w X) => CheckRanges_any s X (HE.out.below h))
  have K5 := hide (fun X => rCheckRanges_any s X)
  generalize rpickT (bys s) a b = P at *
  generalize echeckT (bys s) = C at *
  obtain ⟨P1, P2⟩ := P
  dsimp only at K1 K2
  clear he
  go_enter Tryz.func6, Tryz.ntmps6
  go_wp2_with fail
  refine K1.out.mono ?_
  rintro x w1 ⟨rfl, hb⟩
  have HB1 := hide hb
  clear hb K1
  go_wp2_with fail
  refine (K2.out _).mono ?_
  rintro x w2 ⟨rfl, hb⟩
  have HB2 := hide (HB1.out.trans (hb.mono HB1.out.size))
  clear hb K2 HB1
  go_wp2_with fail
  refine (K3.out _ HB2.out).mono ?_
  rintro x w3 ⟨rfl, hb⟩
  have HB3 := hide (HB2.out.trans (hb.mono HB2.out.size))
  clear hb K3 HB2
  go_wp2_with fail
  refine (K4.out _ HB3.out).mono ?_
  rintro x w4 ⟨rfl, hb⟩
  have HB4 := hide (HB3.out.trans (hb.mono HB3.out.size))
  clear hb K4 HB3
  go_wp2_with fail
  refine (K5.out _).mono ?_
  rintro x w5 ⟨rfl, hb⟩
  have HB5 := hide (HB4.out.trans (hb.mono HB4.out.size))
  clear hb K5 HB4
  go_wp2
  go_ret
  exact ⟨rfl, HB5.out⟩

end Go.Proofs.YtkbciljfjijclaaGreatDoor

namespace Go.Proofs.YtkbciljfjijclaaGreatDoor
open Go.RowKit

def tabVals : DataW Unit → Array Value
  | .agg l => (l.flatMap fun
      | .lit (.int k z) => [Value.int k z]
      | .agg l2 => l2.map fun
        | .lit (.int k z) => Value.int k z
        | _ => .int .u8 0
      | _ => []).toArray
  | _ => #[]

def putVals (d : DataW Unit) : Obj → Obj
  | .cells _ t frozen => .cells (tabVals d) t frozen
  | o => o

def errText : DataW Unit → ByteArray
  | .iface _ (.ptr (.agg [.lit (.string l)])) => ⟨l.toArray⟩
  | _ => ⟨#[]⟩

def putErr (b : Nat) : Obj → Obj
  | .cells _ t frozen => .cells #[.iface 279 (.pointer (some ⟨b, 0, none⟩))] t frozen
  | o => o

noncomputable def laidWorld (os : Os) : World :=
  { World.holding Tryz.prog os ⟨#[], #[], []⟩ with
    heap := (((((((((World.holding Tryz.prog os ⟨#[], #[], []⟩).heap.modify 8 (putVals Rows.laid_math_bits_deBruijn32tab)).modify 9 (putVals Rows.laid_math_bits_deBruijn64tab)).modify 3 (putVals Rows.laid_internal_strconv_uint64pow10)).modify 5 (putVals Rows.laid_unicode_utf8_acceptRanges)).modify 4 (putVals Rows.laid_unicode_utf8_first)).modify 1 (putErr (World.holding Tryz.prog os ⟨#[], #[], []⟩).heap.size)).modify 0 (putErr ((World.holding Tryz.prog os ⟨#[], #[], []⟩).heap.size + 1))).push (.cells #[.string (errText Rows.laid_strconv_ErrRange)] 281)).push (.cells #[.string (errText Rows.laid_strconv_ErrSyntax)] 281) }

end Go.Proofs.YtkbciljfjijclaaGreatDoor

namespace Go.Proofs.YtkbciljfjijclaaGreatDoor
open Go.RowKit

theorem evs_of_trod {W : World} {nm : String} {cs : Array Value} {fuel : Nat} {p : List MemPlace} {name : String} {d : DataW Unit} {t : TypeId} (hv : W.var? Tryz.prog nm = some cs) (ht : t = 97)
    (hd : DataW.trod (fun _ => ()) Tryz.prog W 0 (fun _ => true) false fuel t cs.toList = some (.iface name d, p)) : ∃ tp q, W.var? Tryz.prog nm = some #[.iface tp q] := by
  subst ht
  obtain ⟨_, u, v, hc, _, _⟩ := iface_of_trod Tryz.underlying97 hd
  obtain rfl : cs = #[.iface u v] := by cases cs; simp_all
  exact ⟨u, v, hv⟩

theorem teR : (Tryz.prog.globalNamed "strconv.ErrRange").bind (fun g => (Tryz.prog.globals[g]?).map (·.type)) = some 97 := by kernel_rfl
theorem teS : (Tryz.prog.globalNamed "strconv.ErrSyntax").bind (fun g => (Tryz.prog.globals[g]?).map (·.type)) = some 97 := by kernel_rfl

theorem evs {W : World} (h : laidMetH Tryz.prog [("math/bits.deBruijn32tab", Rows.laid_math_bits_deBruijn32tab), ("math/bits.deBruijn64tab", Rows.laid_math_bits_deBruijn64tab), ("internal/strconv.uint64pow10", Rows.laid_internal_strconv_uint64pow10), ("unicode/utf8.acceptRanges", Rows.laid_unicode_utf8_acceptRanges), ("strconv.ErrRange", Rows.laid_strconv_ErrRange), ("strconv.ErrSyntax", Rows.laid_strconv_ErrSyntax), ("unicode/utf8.first", Rows.laid_unicode_utf8_first)] W) : Evs W := by
  have h' : laidMet Tryz.prog [("math/bits.deBruijn32tab", Rows.laid_math_bits_deBruijn32tab), ("math/bits.deBruijn64tab", Rows.laid_math_bits_deBruijn64tab), ("internal/strconv.uint64pow10", Rows.laid_internal_strconv_uint64pow10), ("unicode/utf8.acceptRanges", Rows.laid_unicode_utf8_acceptRanges), ("strconv.ErrRange", Rows.laid_strconv_ErrRange), ("strconv.ErrSyntax", Rows.laid_strconv_ErrSyntax), ("unicode/utf8.first", Rows.laid_unicode_utf8_first)] W := h
  obtain ⟨ps, ⟨_, _, _, _, _, q1, _, _, _, _, ⟨_, _, _, _, _, q2, _, _, _, _, ⟨_, _, _, _, _, q3, _, _, _, _, ⟨_, _, _, _, _, q4, _, _, _, _, ⟨g5, t5, c5, f5, p5, q5, hg5, ht5, hv5, hd5, ⟨g6, t6, c6, f6, p6, q6, hg6, ht6, hv6, hd6, _, _⟩, _⟩, _⟩, _⟩, _⟩, _⟩, _⟩ := h'
  have e5 := teR
  rw [hg5] at e5
  have e6 := teS
  rw [hg6] at e6
  exact ⟨evs_of_trod hv6 (Option.some.inj (ht6.symm.trans e6)) hd6, evs_of_trod hv5 (Option.some.inj (ht5.symm.trans e5)) hd5⟩

end Go.Proofs.YtkbciljfjijclaaGreatDoor
