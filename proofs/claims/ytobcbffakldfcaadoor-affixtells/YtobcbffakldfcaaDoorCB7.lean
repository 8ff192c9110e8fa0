/-
  Tokens are checked, written and turned as the reference says: the law's walk.
  What the rows' list of package variables gives, and a world that holds them (affix's two tables beside the library's).
-/
import Derived.Test.YtobcbffakldfcaaDoorCB6
import Derived.Test.YtobcbffakldfcaaDoorRows
import Derived.Test.YtobcbffakldfcaaDoorCB2
import Derived.Shelf.Vars
import Derived.Lib.LaidU8
import Derived.Deep.DeepHandedRow
namespace Go.Proofs.YtobcbffakldfcaaDoor
open Go.RowKit

theorem cells_src {w : World} {b o : Nat} {ts : List Tok} (h : TkAt w b o ts) (j : Nat) (u : Value) (hj : (cellsT ts)[j]? = some u) : w.cell? ((⟨b, o, none⟩ : Addr).add j) = some u := by
  have hlt : j < ts.length * 3 := by
    rw [← cellsT_len]
    exact (List.getElem?_eq_some_iff.1 hj).1
  have hi : j / 3 < ts.length := by omega
  obtain ⟨c0, c1, c2⟩ := h (j / 3) hi
  obtain ⟨k0, k1, k2⟩ := cells_at ts (j / 3) hi
  rw [Addr.add_lit]
  have hm : j = j / 3 * 3 ∨ j = j / 3 * 3 + 1 ∨ j = j / 3 * 3 + 2 := by omega
  rcases hm with e | e | e
  · rw [e] at hj
    rw [k0] at hj
    rw [e, ← hj]
    exact c0
  · rw [e] at hj
    rw [k1] at hj
    rw [e, ← hj, ← Nat.add_assoc]
    exact c1
  · rw [e] at hj
    rw [k2] at hj
    rw [e, ← hj, ← Nat.add_assoc]
    exact c2
theorem SrcT.of_tsl {w : World} {v : Value} {ts : List Tok} (h : TSl w v ts) (hn : v = .slice none 0 0 ∨ ∃ a l c, v = .slice (some a) l c) : SrcT w v ts := by
  obtain ⟨ao, cap, rfl, h2, h3⟩ := h
  rcases hn with hn | ⟨a, l, c, hn⟩
  · simp only [Value.slice.injEq] at hn
    exact .inl ⟨by rw [hn.1, hn.2.1, hn.2.2], List.eq_nil_of_length_eq_zero hn.2.1⟩
  · simp only [Value.slice.injEq] at hn
    obtain ⟨rfl, _, _⟩ := hn
    rcases h3 with rfl | ⟨b, o, he, hA⟩
    · exact .inr ⟨a, cap, rfl, fun j u hj => by cases hj⟩
    · simp only [Option.some.injEq] at he
      subst he
      exact .inr ⟨_, cap, rfl, cells_src hA⟩
theorem TSl.front {w : World} {B g c : Nat} {ts : List Tok} {m : Tok} (h : w.ownsRow B 32 3 (.slice (some ⟨g, 0, none⟩) (ts.length + 1) c) (ts.length + 1) (cellsT (ts ++ [m]))) : TSl w (.slice (some ⟨g, 0, none⟩) ts.length c) ts ∧ ts.length + 1 ≤ c ∧ w.cell? ⟨g, ts.length * 3, none⟩ = some (.int .i64 m.kind) := by
  have hc : ts.length + 1 ≤ c := by
    rcases h.2 with ⟨_, q⟩ | ⟨g', c', cur', hv, _, _, hc', _⟩
    · omega
    · simp only [Value.slice.injEq] at hv
      obtain ⟨_, _, e⟩ := hv
      rw [e]; exact hc'
  refine ⟨⟨_, c, rfl, by omega, .inr ⟨g, 0, rfl, fun i hi => ?_⟩⟩, hc, ?_⟩
  · obtain ⟨k0, k1, k2⟩ := cells_at ts i hi
    have hl := cellsT_len ts
    rw [Nat.zero_add]
    refine ⟨(h.cellAt _ (by omega)).trans ?_, (h.cellAt _ (by omega)).trans ?_, (h.cellAt _ (by omega)).trans ?_⟩
    · rw [cellsT_app, List.getElem?_append_left (by omega)]; exact k0
    · rw [cellsT_app, List.getElem?_append_left (by omega)]; exact k1
    · rw [cellsT_app, List.getElem?_append_left (by omega)]; exact k2
  · rw [h.cellAt _ (by omega), cellsT_app, List.getElem?_append_right (by rw [cellsT_len]; exact Nat.le_refl _), cellsT_len, Nat.sub_self]
    rfl
theorem own_of_blk {w : World} {B g n : Nat} {xs : List Value} (h : Blk w g xs.toArray 32) (hB : B ≤ g) (hl : xs.length = n * 3) (hn : n ≤ maxLen) : w.ownsRow B 32 3 (.slice (some ⟨g, 0, none⟩) n n) n xs :=
  ⟨hl, .inr ⟨g, n, xs.toArray, rfl, hB, h, Nat.le_refl _, hn, by simpa using hl, by rw [List.take_of_length_le]; rw [← hl]; simp⟩⟩

set_option maxRecDepth 100000 in
set_option maxHeartbeats 8000000 in
theorem tells_row {w : World} {v : Value} {ts : List Tok} (f t : Int) (h : TSl w v ts) (hsr : SrcT w v ts) (hz : SzT ts) (hl : ts.length * 32 ≤ 140737488351232) (hT : Wd w) :
    Calls Tryd.prog 3 #[v, .int .i64 f, .int .i64 t] w fun e w' => e = .returned (.bool true) ∧ Below w.heap.size w w' := by
  have TS := hide h
  have HZ := hide hz
  have HT := hide hT
  have H1 := hide (copied_any hsr hl)
  obtain ⟨ao, cap, rfl, _, _⟩ := h
  obtain ⟨L, hL⟩ : ∃ L, L = ts.length := ⟨_, rfl⟩
  have HL := hide hL
  have hL1 : ts.length ≤ 140737488355328 := by omega
  have hL2 : ts.length * 32 ≤ 140737488355328 := by omega
  rw [← hL] at hl
  clear hz hT hsr hL
  go_enter Tryd.func3, Tryd.ntmps3
  go_wp2_with fail
  refine H1.out.mono ?_
  rintro e w1 ⟨⟨g, c, rfl, how⟩, hb1⟩
  have OW := hide how
  have B1 := hide hb1
  have TO1 := hide (TSl.front how).1
  have H2 := hide (Print_any TO1.out hL1 HZ.out (HT.out.below hb1))
  clear H1 how hb1
  go_wp2_with fail
  refine H2.out.mono ?_
  rintro e w2 ⟨rfl, hb2⟩
  have B2 := hide (B1.out.trans (hb2.mono B1.out.size))
  have O2 := hide (own_below OW.out hb2)
  have H3 := hide (rPrint_any (TS.out.below B2.out) hL1 HZ.out)
  clear H2 hb2 OW TO1
  go_wp2_with fail
  refine H3.out.mono ?_
  rintro e w3 ⟨rfl, hb3⟩
  have B3 := hide (B2.out.trans (hb3.mono B2.out.size))
  have O3 := hide (own_below O2.out hb3)
  have H4 := hide (Turn_any f t (TSl.front O3.out).1 hL2)
  clear H3 hb3 O2 B2
  go_wp2_with fail
  refine H4.out.mono ?_
  rintro e w4 ⟨gt, rfl, hgt, hbk, hb4⟩
  have BK := hide hbk
  have D4 := hide hb4
  have H5 := hide (rTurn_any f t (TS.out.below (B3.out.trans (hb4.mono B3.out.size))) hL2)
  clear H4 hbk hb4
  go_wp2_with fail
  refine H5.out.mono ?_
  rintro e w5 ⟨⟨v5, rfl, ho5⟩, hb5⟩
  have D5 := hide (D4.out.trans (hb5.mono D4.out.size))
  have BK5 := hide (BK.out.below hb5 BK.out.lt)
  have O5 := hide ho5
  clear H5 hb5 ho5 BK D4
  -- what holds in every world that keeps w3's blocks
  have KO : Hid (∀ X, Below w3.heap.size w3 X → TSl X (.slice (some ⟨g, 0, none⟩) ts.length c) ts ∧ TSl X (.slice ao ts.length cap) ts ∧ Wd X ∧ Below w.heap.size w X) := hide (fun X hX => ⟨(TSl.front (own_below O3.out hX)).1, TS.out.below (B3.out.trans (hX.mono B3.out.size)), HT.out.below (B3.out.trans (hX.mono B3.out.size)), B3.out.trans (hX.mono B3.out.size)⟩)
  have hcl := (TSl.front O3.out).2.1
  have MK : Hid (∀ X, Below w3.heap.size w3 X → X.cell? ⟨g, ts.length * 3, none⟩ = some (.int .i64 (-7))) := hide (fun X hX => cell_on hX (TSl.front O3.out).2.2)
  have H6 := hide (Check_any (KO.out w5 D5.out).1 hL1 HZ.out (KO.out w5 D5.out).2.2.1.u8)
  clear B1 B3
  go_wp2_with fail
  refine H6.out.mono ?_
  rintro e w6 ⟨rfl, hb6⟩
  have D6 := hide (D5.out.trans (hb6.mono D5.out.size))
  have E6 := hide hb6
  have H7 := hide (rCheck_any (KO.out w6 D6.out).2.1 hL1 HZ.out)
  clear H6 hb6
  go_wp2_with fail
  refine H7.out.mono ?_
  rintro e w7 ⟨rfl, hb7⟩
  have D7 := hide (D6.out.trans (hb7.mono D6.out.size))
  have E7 := hide (E6.out.trans (hb7.mono E6.out.size))
  have H8 := hide (Same_any (TSl.of_blk (ts := turnT f t ts) (BK5.out.below E7.out BK5.out.lt) (turnT f t ts).length (Nat.le_refl _)) (TSl.of_own (ts := turnT f t ts) (by rw [turnT_len]; exact own_below O5.out E7.out)) (by rw [turnT_len]; exact hL1))
  rw [decide_eq_true rfl, turnT_len] at H8
  clear H7 hb7 D6 E6
  obtain ⟨PS, hPS⟩ : ∃ PS, PS = mkB (printR ts).2 := ⟨_, rfl⟩
  obtain ⟨PN, hPN⟩ : ∃ PN, PN = (printR ts).1 := ⟨_, rfl⟩
  obtain ⟨CN, hCN⟩ : ∃ CN, CN = chkT ts := ⟨_, rfl⟩
  simp only [← hPS, ← hPN, ← hCN]
  clear hPS hPN hCN
  go_wp2_with fail
  refine H8.out.mono ?_
  rintro e w8 ⟨rfl, hb8⟩
  have D8 := hide (D7.out.trans (hb8.mono D7.out.size))
  have E8 := hide (E7.out.trans (hb8.mono E7.out.size))
  have H9 := hide (Has_any f (KO.out w8 D8.out).1 hL1)
  clear H8 hb8 D7 E7
  go_wp2_with fail
  refine H9.out.mono ?_
  rintro e w9 ⟨rfl, hb9⟩
  have D9 := hide (D8.out.trans (hb9.mono D8.out.size))
  have E9 := hide (E8.out.trans (hb9.mono E8.out.size))
  have H10 := hide (rHas_any f (KO.out w9 D9.out).2.1 hL1)
  clear H9 hb9 D8 E8
  obtain ⟨HB, hHB⟩ : ∃ HB, HB = hasT ts f := ⟨_, rfl⟩
  rw [← hHB] at H10 ⊢
  clear hHB
  go_wp2_with fail
  refine H10.out.mono ?_
  rintro e w10 ⟨rfl, rfl⟩
  have BK9 : Hid (∃ xs : List Value, xs.length = L * 3 ∧ Blk w9 gt xs.toArray 32) := hide ⟨cellsT (turnT f t ts), by rw [cellsT_len, turnT_len, HL.out], BK5.out.below E9.out BK5.out.lt⟩
  clear H10 E9 BK5 O5 D5
  have hcl' : L + 1 ≤ c := by rw [HL.out]; exact hcl
  rw [← HL.out]
  rw [← HL.out] at KO MK
  have hL3 : L ≤ 140737488355328 := by omega
  have hgt' : w3.heap.size ≤ gt := hgt
  clear hcl hL1 hL2 TS HZ HT
  go_wp2
  go_loopw [14] (fun q wr => ∃ k : Nat, k ≤ L ∧ q = .int .i64 (k : Int) ∧ Hid (∃ xs : List Value, xs.length = L * 3 ∧ Blk wr gt xs.toArray 32) ∧ Hid (Below w3.heap.size w3 wr)) (fun q _ => L - (intOf q).toNat)
  case atStart => exact ⟨0, Nat.zero_le _, rfl, BK9, D9⟩
  case round =>
    obtain ⟨k, hk, rfl, HF, HW⟩ := hrel
    by_cases hlt : k < L
    · have hlt' : (k : Int) < (L : Int) := by omega
      obtain ⟨xs, hxl, hbk⟩ := HF.out
      obtain ⟨r0, r1, r2, rest, hr, hrl⟩ := three_of (l := xs.drop (k * 3)) (n := L - (k + 1)) (by rw [List.length_drop, hxl]; omega)
      have hxe : xs = xs.take (k * 3) ++ r0 :: r1 :: r2 :: rest := by rw [← hr, List.take_append_drop]
      have hal : (xs.take (k * 3)).length = k * 3 := by rw [List.length_take]; omega
      rw [hxe] at hbk
      have QK := hide hbk
      obtain ⟨b0, b1, b2⟩ := blk_threeT QK.out hal
      have f0 := QK.out.free (k * 3)
      have f1 := QK.out.free (k * 3 + 1)
      have f2 := QK.out.free (k * 3 + 2)
      have PN' := hide (blk_put3T QK.out hal (.int .i64 (-8)) (.int .i64 0) (.string ⟨#[]⟩))
      have NF : Hid (∃ ys : List Value, ys.length = L * 3 ∧ Blk (((wr.setCell ⟨gt, k * 3, none⟩ (.int .i64 (-8))).setCell ⟨gt, k * 3 + 1, none⟩ (.int .i64 0)).setCell ⟨gt, k * 3 + 2, none⟩ (.string ⟨#[]⟩)) gt ys.toArray 32) := hide ⟨_, by rw [List.length_append, hal]; simp only [List.length_cons]; omega, PN'.out⟩
      have UN := hide (((HW.out.setCell (p := ⟨gt, k * 3, none⟩) hgt' (.int .i64 (-8))).setCell (p := ⟨gt, k * 3 + 1, none⟩) hgt' (.int .i64 0)).setCell (p := ⟨gt, k * 3 + 2, none⟩) hgt' (.string ⟨#[]⟩))
      clear HF hxl hbk hr hrl hxe hal QK PN' HW KO MK
      go_wp2
      exact ⟨⟨k + 1, by omega, by go_num, NF, UN⟩, by simp [intOf]; omega⟩
    · obtain rfl : k = L := by omega
      have hlt' : ¬ (k : Int) < (k : Int) := by omega
      have OWN : Hid (∃ xs : List Value, wr.ownsRow w3.heap.size 32 3 (.slice (some ⟨gt, 0, none⟩) k k) k xs) := hide (by
        obtain ⟨xs, hxl, hbk⟩ := HF.out
        exact ⟨xs, own_of_blk hbk hgt' hxl (by unfold maxLen; omega)⟩)
      obtain ⟨xs, hown⟩ := OWN.out
      have BA : Hid (Below wr.heap.size wr (wr.alloc (.cells #[.int .i64 (-9), .int .i64 0, .string ⟨#[]⟩] 32))) := hide ((Below.refl _ _).alloc (Nat.le_refl _) _)
      have SR : Hid (SrcT (wr.alloc (.cells #[.int .i64 (-9), .int .i64 0, .string ⟨#[]⟩] 32)) (.slice (some ⟨wr.heap.size, 0, none⟩) 1 1) [⟨-9, 0, ⟨#[]⟩⟩]) := hide (SrcT.blk1 (Blk.newAt wr wr.heap.size rfl _ _))
      have OA := hide (own_below hown BA.out)
      have HBA := hide (HW.out.trans (BA.out.mono HW.out.size))
      have hn1 : (((k + 1 : Nat) : Int) == (k : Int) + 1) = true := beq_iff_eq.2 (by omega)
      clear OWN hown HF hlt
      go_wp2_with (at_builtin; refine wpT_append rfl _ _ rfl w3.heap.size (.slice (some ⟨gt, 0, none⟩) k k) k xs rfl OA.out _ [⟨-9, 0, ⟨#[]⟩⟩] rfl SR.out (k + 1) rfl _ rfl (by omega) HBA.out.size ?_; intro uo2 uc2 w12 hown2 hgr2)
      have HB12 := hide (HBA.out.grown hgr2 HBA.out.size (fun q hq => (World.ownsRow.lt OA.out q hq).1))
      clear hown2 hgr2 SR OA HBA BA
      obtain ⟨k1, k2, k3, k4⟩ := KO.out w12 HB12.out
      have H11 := hide (Same_any k1 k2 (by rw [← HL.out]; exact hL3))
      rw [decide_eq_true rfl] at H11
      have FIX : Hid (∀ X, Below w12.heap.size w12 X → (Calls Tryd.prog 18 #[] X fun e w' => e = .returned (.bool true) ∧ Below w.heap.size w w') ∧ X.cell? ⟨g, k * 3, none⟩ = some (.int .i64 (-7))) := hide (fun X hX => by
        have hX3 := HB12.out.trans (hX.mono HB12.out.size)
        obtain ⟨_, _, q3, q4⟩ := KO.out X hX3
        exact ⟨(fixed13_any X q3).mono fun e w' ⟨h1, h2⟩ => ⟨h1, q4.trans (h2.mono q4.size)⟩, MK.out X hX3⟩)
      clear k1 k2 k3 k4 KO MK
      go_wp2_with fail
      refine H11.out.mono ?_
      rintro e w13 ⟨rfl, hb13⟩
      obtain ⟨F1, cM⟩ := FIX.out w13 hb13
      have HF := hide F1
      have hcI : (k : Int) + 1 ≤ (c : Int) := by omega
      clear F1 FIX H11 hb13
      go_wp2_with fail
      refine HF.out.mono ?_
      rintro e w14 ⟨rfl, hb14⟩
      go_wp2
      go_ret
      exact ⟨rfl, hb14⟩

theorem affixTells_row (W : World) (tab : Wd W) (v : Value) (ts : List Tok) (h : TSl W v ts) (hz : SzT ts) (hl : ts.length * 32 ≤ 140737488351232) (hn : v = .slice none 0 0 ∨ ∃ a l c, v = .slice (some a) l c) (f t : Int) :
    Calls Tryd.prog 3 #[v, .int .i64 f, .int .i64 t] W fun e w' => e = .returned (.bool true) ∧ Below W.heap.size W w' := tells_row f t h (SrcT.of_tsl h hn) hz hl tab

end Go.Proofs.YtobcbffakldfcaaDoor

namespace Go.Proofs.YtobcbffakldfcaaDoor
open Go.RowKit

theorem laid_first : (Rows.laid_unicode_utf8_first : DataW Unit) = Lib.firstData := by kernel_rfl
theorem laid_accept : (Rows.laid_unicode_utf8_acceptRanges : DataW Unit) = Lib.acceptData := by kernel_rfl
theorem cellsAR : Tryd.prog.cellsOf 110 = 2 := by kernel_rfl
theorem cellsU8 : Tryd.prog.cellsOf 5 = 1 := by kernel_rfl
theorem cellsFT : Tryd.prog.cellsOf 108 = 256 := by kernel_rfl

theorem first_of {W : World} (h : Lib.VarReads Tryd.prog W "unicode/utf8.first" Lib.firstData) : ∀ c, c < 256 → W.cell? ⟨2, c, none⟩ = some (.int .u8 (Lib.firstT c : Int)) := by
  intro c hc
  obtain ⟨g, t, cs, fuel, p, hg, hty, hvar, hd⟩ := h
  have eg : g = 2 := Option.some.inj (hg.symm.trans (by kernel_rfl))
  subst eg
  have et : t = 108 := Option.some.inj (hty.symm.trans (by kernel_rfl))
  subst et
  have hcs := Lib.cells_of_tab Tryd.underlying108 Tryd.underlying5 cellsU8 cellsFT hd
  rw [World.var?_cell hg hvar c, ← Array.getElem?_toList, hcs]
  simp [Lib.firstTab, hc]

theorem accept_of {W : World} (h : Lib.VarReads Tryd.prog W "unicode/utf8.acceptRanges" Lib.acceptData) : ∀ i, i < 16 → W.cell? ⟨3, 2 * i, none⟩ = some (.int .u8 (Lib.accLo i : Int)) ∧ W.cell? ⟨3, 2 * i + 1, none⟩ = some (.int .u8 (Lib.accHi i : Int)) := by
  intro i hi
  obtain ⟨g, t, cs, fuel, p, hg, hty, hvar, hd⟩ := h
  have eg : g = 3 := Option.some.inj (hg.symm.trans (by kernel_rfl))
  subst eg
  have et : t = 111 := Option.some.inj (hty.symm.trans (by kernel_rfl))
  subst et
  obtain ⟨fu, d, q, hdi, he⟩ := Lib.array_elem Tryd.underlying111 hd i hi
  rw [cellsAR] at he
  have hdv : d = .agg ([(Lib.accLo i : Int), (Lib.accHi i : Int)].map fun z => .lit (.int .u8 z)) := by
    rw [List.getElem?_map, List.getElem?_range hi] at hdi
    exact (Option.some.inj hdi).symm
  subst hdv
  have fields : ∀ (j : Nat) (f : Field), (Tryd.prog.fieldsOf 110)[j]? = some f → Tryd.prog.underlying f.type = some (.int .u8) ∧ f.offset = j ∧ Tryd.prog.cellsOf f.type = 1 := by
    intro j f hj
    have e2 : Tryd.prog.fieldsOf 110 = #[(Tryd.prog.fieldsOf 110)[0]!, (Tryd.prog.fieldsOf 110)[1]!] := by kernel_rfl
    rw [e2] at hj
    match j, hj with
    | 0, hj => simp at hj; subst hj; exact ⟨by kernel_rfl, by kernel_rfl, by kernel_rfl⟩
    | 1, hj => simp at hj; subst hj; exact ⟨by kernel_rfl, by kernel_rfl, by kernel_rfl⟩
    | j + 2, hj => simp at hj
  have hcs := Lib.ints_of_struct (fs := Tryd.prog.fieldsOf 110) (by kernel_rfl) fields (by kernel_rfl) he
  have q0 := congrArg (fun l => l[0]?) hcs
  have q1 := congrArg (fun l => l[1]?) hcs
  simp only [List.getElem?_take, List.getElem?_drop] at q0 q1
  refine ⟨?_, ?_⟩
  · rw [World.var?_cell hg hvar (2 * i), ← Array.getElem?_toList, Nat.mul_comm]
    simpa using q0
  · rw [World.var?_cell hg hvar (2 * i + 1), ← Array.getElem?_toList, Nat.mul_comm]
    simpa using q1

theorem cellsMv : Tryd.prog.cellsOf 80 = 2 := by kernel_rfl
theorem cellsStr : Tryd.prog.cellsOf 9 = 1 := by kernel_rfl

theorem signs_of {W : World} (h : Lib.VarReads Tryd.prog W "quipu/affix.signs" Rows.laid_quipu_affix_signs) (i : Nat) (hi : i < 6) (l : List UInt8) (hl : (Rows.laid_quipu_affix_signs : DataW Unit) = .agg (([[], [45], [43], [37], [226, 128, 176], [194, 164]] : List (List UInt8)).map fun x => .lit (.string x))) (he : ([[], [45], [43], [37], [226, 128, 176], [194, 164]] : List (List UInt8))[i]? = some l) : W.cell? ⟨0, i, none⟩ = some (.string ⟨l.toArray⟩) := by
  obtain ⟨g, t, cs, fuel, p, hg, hty, hvar, hd⟩ := h
  have eg : g = 0 := Option.some.inj (hg.symm.trans (by kernel_rfl))
  subst eg
  have et : t = 50 := Option.some.inj (hty.symm.trans (by kernel_rfl))
  subst et
  rw [hl] at hd
  obtain ⟨fu, d, q, hdi, hel⟩ := Lib.array_elem Tryd.underlying50 hd i hi
  rw [cellsStr] at hel
  obtain ⟨z, e0, f0, _⟩ := DataW.trod_string Tryd.underlying9 hel
  rw [List.getElem?_map, he] at hdi
  have e1 : (DataW.lit (.string l) : DataW Unit) = d := Option.some.inj hdi
  have e2 : z.data.toList = l := by
    have e3 := e1.trans (congrArg Prod.fst f0)
    simp only [DataW.lit.injEq, Lit.string.injEq] at e3
    exact e3.symm
  have q0 := congrArg (fun l => l[0]?) e0
  simp only [List.getElem?_take, List.getElem?_drop] at q0
  rw [World.var?_cell hg hvar i, ← Array.getElem?_toList]
  have ez : z = ⟨l.toArray⟩ := by rw [← e2]
  rw [← ez]
  simpa using q0

theorem moves_of {W : World} (h : Lib.VarReads Tryd.prog W "quipu/affix.moves" Rows.laid_quipu_affix_moves) (i : Nat) (hi : i < 4) (a b : Int) (hl : (Rows.laid_quipu_affix_moves : DataW Unit) = .agg (([(1, 0), (0, 2), (3, 2), (2, 0)] : List (Int × Int)).map fun x => .agg ([x.1, x.2].map fun z => .lit (.int .i64 z)))) (he : ([(1, 0), (0, 2), (3, 2), (2, 0)] : List (Int × Int))[i]? = some (a, b)) : W.cell? ⟨1, 2 * i, none⟩ = some (.int .i64 a) ∧ W.cell? ⟨1, 2 * i + 1, none⟩ = some (.int .i64 b) := by
  obtain ⟨g, t, cs, fuel, p, hg, hty, hvar, hd⟩ := h
  have eg : g = 1 := Option.some.inj (hg.symm.trans (by kernel_rfl))
  subst eg
  have et : t = 81 := Option.some.inj (hty.symm.trans (by kernel_rfl))
  subst et
  rw [hl] at hd
  obtain ⟨fu, d, q, hdi, hel⟩ := Lib.array_elem Tryd.underlying81 hd i hi
  rw [cellsMv] at hel
  rw [List.getElem?_map, he] at hdi
  have hdv : d = .agg ([a, b].map fun z => .lit (.int .i64 z)) := (Option.some.inj hdi).symm
  subst hdv
  have fields : ∀ (j : Nat) (f : Field), (Tryd.prog.fieldsOf 80)[j]? = some f → Tryd.prog.underlying f.type = some (.int .i64) ∧ f.offset = j ∧ Tryd.prog.cellsOf f.type = 1 := by
    intro j f hj
    have e2 : Tryd.prog.fieldsOf 80 = #[(Tryd.prog.fieldsOf 80)[0]!, (Tryd.prog.fieldsOf 80)[1]!] := by kernel_rfl
    rw [e2] at hj
    match j, hj with
    | 0, hj => simp at hj; subst hj; exact ⟨by kernel_rfl, by kernel_rfl, by kernel_rfl⟩
    | 1, hj => simp at hj; subst hj; exact ⟨by kernel_rfl, by kernel_rfl, by kernel_rfl⟩
    | j + 2, hj => simp at hj
  have hcs := Lib.ints_of_struct (fs := Tryd.prog.fieldsOf 80) (by kernel_rfl) fields (by kernel_rfl) hel
  have q0 := congrArg (fun l => l[0]?) hcs
  have q1 := congrArg (fun l => l[1]?) hcs
  simp only [List.getElem?_take, List.getElem?_drop] at q0 q1
  refine ⟨?_, ?_⟩
  · rw [World.var?_cell hg hvar (2 * i), ← Array.getElem?_toList, Nat.mul_comm]
    simpa using q0
  · rw [World.var?_cell hg hvar (2 * i + 1), ← Array.getElem?_toList, Nat.mul_comm]
    simpa using q1

theorem table {W : World} (h : laidMetH Tryd.prog [("unicode/utf8.acceptRanges", Rows.laid_unicode_utf8_acceptRanges), ("quipu/affix.signs", Rows.laid_quipu_affix_signs), ("quipu/affix.moves", Rows.laid_quipu_affix_moves), ("unicode/utf8.first", Rows.laid_unicode_utf8_first)] W) (hs : W.ShapedOpen Tryd.prog) : Wd W := by
  have h' : laidMet Tryd.prog [("unicode/utf8.acceptRanges", Rows.laid_unicode_utf8_acceptRanges), ("quipu/affix.signs", Rows.laid_quipu_affix_signs), ("quipu/affix.moves", Rows.laid_quipu_affix_moves), ("unicode/utf8.first", Rows.laid_unicode_utf8_first)] W := h
  have h3 := Lib.laidMet.reads h' (n := "unicode/utf8.first") (d := Rows.laid_unicode_utf8_first) (by simp)
  have h4 := Lib.laidMet.reads h' (n := "unicode/utf8.acceptRanges") (d := Rows.laid_unicode_utf8_acceptRanges) (by simp)
  have h5 := Lib.laidMet.reads h' (n := "quipu/affix.signs") (d := Rows.laid_quipu_affix_signs) (by simp)
  have h6 := Lib.laidMet.reads h' (n := "quipu/affix.moves") (d := Rows.laid_quipu_affix_moves) (by simp)
  rw [laid_first] at h3
  rw [laid_accept] at h4
  have m0 := moves_of h6 0 (by decide) 1 0 rfl rfl
  have m1 := moves_of h6 1 (by decide) 0 2 rfl rfl
  have m2 := moves_of h6 2 (by decide) 3 2 rfl rfl
  have m3 := moves_of h6 3 (by decide) 2 0 rfl rfl
  exact ⟨⟨first_of h3, accept_of h4⟩, signs_of h5 0 (by decide) _ rfl rfl, signs_of h5 1 (by decide) _ rfl rfl, signs_of h5 2 (by decide) _ rfl rfl, signs_of h5 3 (by decide) _ rfl rfl, signs_of h5 4 (by decide) _ rfl rfl, signs_of h5 5 (by decide) _ rfl rfl, m0.1, m0.2, m1.1, m1.2, m2.1, m2.2, m3.1, m3.2,
    Go.Proofs.cell_of_shapedOpen_int (t := 3) (zero := #[.int .i64 0]) (k := .i64) hs (of_decide_eq_true (by kernel_rfl)) (by kernel_rfl) rfl (by kernel_rfl) (by kernel_rfl) Tryd.underlying3⟩

def tabVals : DataW Unit → Array Value
  | .agg l => (l.flatMap fun
      | .lit (.int k z) => [Value.int k z]
      | .lit (.string l) => [Value.string ⟨l.toArray⟩]
      | .agg l2 => l2.map fun
        | .lit (.int k z) => Value.int k z
        | _ => .int .u8 0
      | _ => []).toArray
  | _ => #[]

def putVals (d : DataW Unit) : Obj → Obj
  | .cells _ t frozen => .cells (tabVals d) t frozen
  | o => o

noncomputable def laidWorld (os : Os) : World :=
  { World.holding Tryd.prog os ⟨#[], #[], []⟩ with
    heap := ((((World.holding Tryd.prog os ⟨#[], #[], []⟩).heap.modify 3 (putVals Rows.laid_unicode_utf8_acceptRanges)).modify 2 (putVals Rows.laid_unicode_utf8_first)).modify 0 (putVals Rows.laid_quipu_affix_signs)).modify 1 (putVals Rows.laid_quipu_affix_moves) }

end Go.Proofs.YtobcbffakldfcaaDoor
