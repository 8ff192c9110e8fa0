/-
  What quipuref12's chain answers.
  What the reference's Decode makes in memory: texts, tables with their entries.
  What quipuref12's number answers; where a text stands in the pool.
  A text that is appended to a list of bytes in a block of its own, out of a conversion or an append.
  quipuref12.SameTexts of two lists that read the same, nil or not; what Keys answers as a list.
-/
import Derived.Test.YtihnakblcfealaaGreatDoorEB14
import Derived.Test.YtihnakblcfealaaGreatDoorEB12
import Derived.Test.YtihnakblcfealaaGreatDoorEB11
import Derived.Test.YtihnakblcfealaaGreatDoorEB9
import Derived.Test.YtihnakblcfealaaGreatDoorEB5
import Derived.Lib.AppendStr
import Derived.Test.YtihnakblcfealaaGreatDoorEB6
import Derived.Test.YtihnakblcfealaaGreatDoorEB4
namespace Go.Proofs.YtihnakblcfealaaGreatDoor
open Go.RowKit

end Go.Proofs.YtihnakblcfealaaGreatDoor

namespace Go.Proofs.YtihnakblcfealaaGreatDoor
open Go.RowKit

theorem TxD.of_own {w : World} {B D : Nat} {v : Value} {ps : List ByteArray} (h : w.ownsRow B 9 1 v ps.length (ps.map Value.string)) (hD : D < B) : TxD w D v ps := by
  rcases h.2 with ⟨rfl, h0⟩ | ⟨g, cap, cur, rfl, hg, hh, hn, _⟩
  · obtain rfl := List.length_eq_zero_iff.1 h0
    exact ⟨none, 0, rfl, Nat.le_refl _, fun i hi => by simp at hi⟩
  · refine ⟨some ⟨g, 0, none⟩, cap, rfl, hn, fun i _ => ⟨g, 0, rfl, lt_of_block hh, by omega, fun j hj => ?_⟩⟩
    have hcl := World.ownsRow.cells h (g := g) rfl
    have q := hcl j (.string (txN ps j)) ?_
    · rw [Addr.add_lit] at q; exact q
    unfold txN
    rw [List.getElem?_map, List.getElem?_eq_getElem hj]
    rfl

theorem own_apart {w : World} {B B' sz sz' n n' : Nat} {e e' : TypeId} {v v' : Value} {xs xs' : List Value} (h : w.ownsRow B e sz v n xs) (h' : w.ownsRow B' e' sz' v' n' xs') (hne : e ≠ e') {g : Nat} (hg : v.ownBlock = some g) : v'.ownBlock ≠ some g := by
  rcases h.2 with ⟨rfl, _⟩ | ⟨k, cap, cur, rfl, _, hh, r⟩
  · simp [Value.ownBlock] at hg
  · rcases h'.2 with ⟨rfl, _⟩ | ⟨k', cap', cur', rfl, _, hh', r'⟩
    · simp [Value.ownBlock]
    · simp only [Value.ownBlock, Option.some.injEq, ne_eq] at hg ⊢
      intro q
      subst hg q
      rw [hh] at hh'
      simp only [Option.some.injEq, Obj.cells.injEq] at hh'
      exact hne hh'.2.1

theorem own_grown {w w' : World} {B sz n : Nat} {e : TypeId} {v : Value} {xs : List Value} {r : Option Nat} (h : w.ownsRow B e sz v n xs) (hg : w.grownBy w' r) (hr : v.ownBlock ≠ r ∨ r = none) : w'.ownsRow B e sz v n xs := by
  refine ⟨h.1, ?_⟩
  rcases h.2 with q | ⟨g, cap, cur, rfl, hB, hh, k⟩
  · exact .inl q
  · refine .inr ⟨g, cap, cur, rfl, hB, ?_, k⟩
    rw [hg.block g (lt_of_block hh) (by
      rcases hr with q | q
      · intro e; exact q e
      · rw [q]; simp)]
    exact hh

def EntsR (w : World) (B : Nat) (cs : List (Tab × Value)) : Prop := ∀ c ∈ cs, w.ownsRow B 33 4 c.2 c.1.ents.length (cellsEn c.1.ents)
theorem EntsR.but {w w' : World} {B D : Nat} {cs : List (Tab × Value)} (h : EntsR w B cs) (hb : But D w w') (hD : D < B) : EntsR w' B cs := fun c hc => own_butB (h c hc) hb hD
theorem EntsR.set {w : World} {B b i : Nat} {u : Value} {cs : List (Tab × Value)} (h : EntsR w B cs) (hb : b < B) : EntsR (w.setCell ⟨b, i, none⟩ u) B cs := fun c hc => own_setB (h c hc) hb
theorem EntsR.add {w : World} {B : Nat} {cs : List (Tab × Value)} {t : Tab} {v : Value} (h : EntsR w B cs) (ht : w.ownsRow B 33 4 v t.ents.length (cellsEn t.ents)) : EntsR w B (cs ++ [(t, v)]) := by
  intro c hc
  rcases List.mem_append.1 hc with q | q
  · exact h c q
  · simp at q; subst q; exact ht

theorem refXs_stop {s : ByteArray} {n : Nat} {st : St} (h : n = 0 ∨ st.2 ≠ 0) : refXs s n st = ([], st) := by
  cases n with
  | zero => rfl
  | succ n =>
    show (if st.2 = 0 then _ else _) = _
    rw [if_neg (by rcases h with h | h; cases h; exact h)]
theorem refXs_next {s : ByteArray} {n : Nat} {st : St} (h : st.2 = 0) : refXs s (n + 1) st = (xV s st :: (refXs s n (xS s st)).1, (refXs s n (xS s st)).2) := by
  show (if st.2 = 0 then _ else _) = _
  rw [if_pos h]
theorem refTs_stop {ps : List ByteArray} {s : ByteArray} {n : Nat} {st : St} {b : Bool} (h : n = 0 ∨ b = false) : refTs ps s n st b = ([], b, st) := by
  cases n with
  | zero => rfl
  | succ n =>
    show (if b = true then _ else _) = _
    rw [if_neg (by rcases h with h | h; cases h; rw [h]; decide)]
theorem refTs_next {ps : List ByteArray} {s : ByteArray} {n : Nat} {st : St} : refTs ps s (n + 1) st true = ((refG ps s st).1 :: (refTs ps s n (refG ps s st).2.2 (refG ps s st).2.1).1, (refTs ps s n (refG ps s st).2.2 (refG ps s st).2.1).2) := by
  show (if true = true then _ else _) = _
  rw [if_pos rfl]

theorem refXs_all (s : ByteArray) : ∀ n st, ∀ x ∈ (refXs s n st).1, x.size ≤ s.size
  | 0, st, x, hx => by simp [refXs] at hx
  | n + 1, st, x, hx => by
    unfold refXs at hx
    split at hx
    · rcases List.mem_cons.1 hx with q | q
      · rw [q]; exact xV_le s st
      · exact refXs_all s n _ x q
    · simp at hx

theorem refL_all {ps : List ByteArray} (s : ByteArray) (hP : ∀ x ∈ ps, x.size ≤ s.size) : ∀ n st b, (refL ps s n st b).1.length ≤ n ∧ ∀ x ∈ (refL ps s n st b).1, x.key.size ≤ s.size ∧ x.text.size ≤ s.size
  | 0, st, b => ⟨Nat.le_refl _, fun x hx => by simp [refL] at hx⟩
  | n + 1, st, b => by
    obtain ⟨h1, h2⟩ := refL_all s hP n (rdE ps s st).2 (okE ps s st)
    unfold refL
    split
    · refine ⟨Nat.succ_le_succ h1, fun x hx => ?_⟩
      rcases List.mem_cons.1 hx with q | q
      · rw [q]
        unfold rdE
        simp only
        split
        · exact ⟨txN_le hP _, Nat.zero_le _⟩
        · exact ⟨txN_le hP _, txN_le hP _⟩
      · exact h2 x q
    · exact ⟨Nat.zero_le _, fun x hx => by simp at hx⟩

theorem refTs_all {ps : List ByteArray} (s : ByteArray) (hP : ∀ x ∈ ps, x.size ≤ s.size) : ∀ n st b, (refTs ps s n st b).1.length ≤ n ∧ ∀ t ∈ (refTs ps s n st b).1, t.name.size ≤ s.size ∧ t.ents.length ≤ 65536 ∧ ∀ x ∈ t.ents, x.key.size ≤ s.size ∧ x.text.size ≤ s.size
  | 0, st, b => ⟨Nat.le_refl _, fun x hx => by simp [refTs] at hx⟩
  | n + 1, st, b => by
    obtain ⟨h1, h2⟩ := refTs_all s hP n (refG ps s st).2.2 (refG ps s st).2.1
    unfold refTs
    split
    · refine ⟨Nat.succ_le_succ h1, fun x hx => ?_⟩
      rcases List.mem_cons.1 hx with q | q
      · rw [q]
        obtain ⟨l1, l2⟩ := refL_all s hP (gV s (gS s (gS s st 2) 1) 2) (refS s st) (decide (gV s st 2 < ps.length))
        exact ⟨txN_le hP _, Nat.le_trans l1 (Nat.le_of_lt (gV2_lt s _)), l2⟩
      · exact h2 x q
    · exact ⟨Nat.zero_le _, fun x hx => by simp at hx⟩

theorem gV1_lt (s : ByteArray) (st : St) : gV s st 1 < 256 := by
  unfold gV getV
  split
  · exact beA_lt (bys s) st.1 1
  · decide

theorem ref_size (s : ByteArray) (hs : s.size ≤ 140737488355328) : SzT (refB s).1 ∧ (refB s).1.length ≤ 256 := by
  have hP : ∀ x ∈ (refP s).1, x.size ≤ s.size := refXs_all s _ _
  obtain ⟨h1, h2⟩ := refTs_all s hP (gV s (refP s).2 1) (gS s (refP s).2 1) (decide ((gS s (refP s).2 1).2 = 0))
  refine ⟨fun i => ?_, Nat.le_trans h1 (Nat.le_of_lt (gV1_lt s _))⟩
  unfold tabN
  cases e : (refB s).1[i]? with
  | none => exact ⟨Nat.zero_le _, Nat.zero_le _, fun j => ⟨Nat.zero_le _, Nat.zero_le _⟩⟩
  | some t =>
    obtain ⟨k1, k2, k3⟩ := h2 t (List.mem_of_getElem? e)
    refine ⟨Nat.le_trans k1 hs, Nat.le_trans k2 (by decide), fun j => ?_⟩
    show (entN t.ents j).key.size ≤ _ ∧ (entN t.ents j).text.size ≤ _
    unfold entN
    cases e2 : t.ents[j]? with
    | none => exact ⟨Nat.zero_le _, Nat.zero_le _⟩
    | some x =>
      obtain ⟨k4, k5⟩ := k3 x (List.mem_of_getElem? e2)
      exact ⟨Nat.le_trans k4 hs, Nat.le_trans k5 hs⟩

theorem EntsR.esl {w : World} {B : Nat} {cs : List (Tab × Value)} (h : EntsR w B cs) : ∀ c ∈ cs, ESl w c.2 c.1.ents := fun c hc => ESl.of_ownB (h c hc)
theorem EntsR.base {w : World} {B B' : Nat} {cs : List (Tab × Value)} (h : EntsR w B cs) (hB : B' ≤ B) : EntsR w B' cs := fun c hc => own_baseB (h c hc) hB
theorem EntsR.below {w w' : World} {B : Nat} {cs : List (Tab × Value)} (h : EntsR w B cs) (hb : Below w.heap.size w w') : EntsR w' B cs := fun c hc => own_belowB (h c hc) hb
theorem EntsR.grown {w w' : World} {B B' n : Nat} {cs : List (Tab × Value)} {v : Value} {xs : List Value} (h : EntsR w B cs) (ho : w.ownsRow B' 31 3 v n xs) (hg : w.grownBy w' v.ownBlock) : EntsR w' B cs := fun c hc => own_grown (h c hc) hg (by
  cases e : v.ownBlock with
  | none => exact .inr rfl
  | some g => exact .inl (own_apart ho (h c hc) (by decide) e))

end Go.Proofs.YtihnakblcfealaaGreatDoor

namespace Go.Proofs.YtihnakblcfealaaGreatDoor
open Go.RowKit

theorem place_idx {ps : List (List UInt8)} {s : List UInt8} {p : Nat} (hr : Rise ps) (hm : s ∈ ps) (h : PosL ps s p) : placeS ps s = p := by
  have ha := (PosL.mem hr h).2 hm
  unfold isAt at ha
  obtain ⟨h1, h2⟩ := (Bool.and_eq_true _ _).mp ha
  have h1' := of_decide_eq_true h1
  have h2' := of_decide_eq_true h2
  unfold placeS
  rw [if_pos hm]
  have hi : ps.idxOf s < ps.length := List.idxOf_lt_length_iff.2 hm
  have e1 : ps[ps.idxOf s] = s := List.getElem_idxOf hi
  have e2 : atP ps (ps.idxOf s) = s := by unfold atP; rw [List.getElem?_eq_getElem hi]; exact e1
  rcases Nat.lt_trichotomy (ps.idxOf s) p with q | q | q
  · have := rise_lt hr q h1'
    rw [e2, h2'] at this
    exact absurd this (List.lt_irrefl _)
  · exact q
  · have := rise_lt hr q hi
    rw [e2, h2'] at this
    exact absurd this (List.lt_irrefl _)

set_option maxRecDepth 100000 in
set_option maxHeartbeats 2000000 in
theorem rnumber2 {w : World} {v : Value} {ps : List (List UInt8)} (s : ByteArray) (h : TxS w v ps) (hr : Rise ps) (hn : ps.length ≤ 4398046511104) (hm : bys s ∈ ps) :
    Calls Tryz.prog 39 #[v, .string s, .int .i64 2] w fun e w' => e = .returned (.string (put2 (placeS ps (bys s) : Int))) ∧ Below w.heap.size w w' := by
  have HP := hide (place_any s h hr hn)
  have HPI := hide (fun p hp => place_idx (p := p) hr hm hp)
  go_enter Tryz.func39, Tryz.ntmps39
  go_wp2_with fail
  refine HP.out.mono ?_
  rintro e w1 ⟨⟨p, hp, rfl⟩, hb⟩
  have HB := hide hb
  have HI := hide (HPI.out p hp)
  have HN := hide (rPut2 (p : Int) w1)
  clear hp hb HP
  go_wp2_with fail
  refine HN.out.mono ?_
  rintro e w2 ⟨rfl, hb2⟩
  have HB2 := hide (HB.out.trans (hb2.mono HB.out.size))
  clear hb2 HN
  go_wp2
  go_ret
  exact ⟨by rw [HI.out]; rfl, HB2.out⟩

set_option maxRecDepth 100000 in
set_option maxHeartbeats 2000000 in
theorem rnumber4 {w : World} {v : Value} {ps : List (List UInt8)} (s : ByteArray) (h : TxS w v ps) (hr : Rise ps) (hn : ps.length ≤ 4398046511104) (hm : bys s ∈ ps) :
    Calls Tryz.prog 39 #[v, .string s, .int .i64 4] w fun e w' => e = .returned (.string (put4 (placeS ps (bys s) : Int))) ∧ Below w.heap.size w w' := by
  have HP := hide (place_any s h hr hn)
  have HPI := hide (fun p hp => place_idx (p := p) hr hm hp)
  go_enter Tryz.func39, Tryz.ntmps39
  go_wp2_with fail
  refine HP.out.mono ?_
  rintro e w1 ⟨⟨p, hp, rfl⟩, hb⟩
  have HB := hide hb
  have HI := hide (HPI.out p hp)
  have HN := hide (rPut4 (p : Int) w1)
  clear hp hb HP
  go_wp2_with fail
  refine HN.out.mono ?_
  rintro e w2 ⟨rfl, hb2⟩
  have HB2 := hide (HB.out.trans (hb2.mono HB.out.size))
  clear hb2 HN
  go_wp2
  go_ret
  exact ⟨by rw [HI.out]; rfl, HB2.out⟩

end Go.Proofs.YtihnakblcfealaaGreatDoor

namespace Go.Proofs.YtihnakblcfealaaGreatDoor
open Go.RowKit Go.Lib

theorem run_storeCells_atG (P : Program) (g o : Nat) (t : TypeId) (fz : Nat × Nat) : ∀ (vs : List Value) (i : Nat) (cur : Array Value) (w : World), w.heap[g]? = some (.cells cur t fz) → (fz = (0, 0) ∨ o + i + vs.length ≤ fz.1) → o + i + vs.length ≤ cur.size → (∀ v ∈ vs, v.oneCell' = true) →
    (storeCells ⟨g, o, none⟩ vs i).run P w = .ok () (w.setRow g (cur.toList.take (o + i) ++ vs ++ cur.toList.drop (o + i + vs.length)).toArray)
  | [], i, cur, w, hg, _, _, _ => by
    simp only [storeCells, List.append_nil, List.length_nil, Nat.add_zero, List.take_append_drop, Array.toArray_toList]
    rw [setRow_self w g cur t fz hg]
    rfl
  | v :: rest, i, cur, w, hg, hfz, hl, h1 => by
    have hi : o + i < cur.size := by simp at hl; omega
    have hadd : (⟨g, o, none⟩ : Addr).add i = ⟨g, o + i, none⟩ := by unfold Addr.add; split <;> simp_all
    have hcell : w.cell? ⟨g, o + i, none⟩ = some cur[o + i] := by simp [World.cell?, hg, hi]
    have hfro : w.frozen? ⟨g, o + i, none⟩ = false := by
      obtain ⟨lo, hi'⟩ := fz
      simp only [World.frozen?, hg, Bool.and_eq_false_iff, decide_eq_false_iff_not]
      rcases hfz with q | q
      · simp only [Prod.mk.injEq] at q
        right
        omega
      · left
        simp only [List.length_cons] at q
        omega
    have hst : (store ((⟨g, o, none⟩ : Addr).add i) v).run P w = .ok () (w.setRow g (cur.setIfInBounds (o + i) v)) := by
      rw [hadd, run_store P w _ v _ (h1 v (by simp)), hcell]
      simp [hfro, setCell_eq_setRow w g (o + i) cur t fz v hg]
    have ih := run_storeCells_atG P g o t fz rest (i + 1) (cur.setIfInBounds (o + i) v) (w.setRow g (cur.setIfInBounds (o + i) v)) (setRow_heap w g cur _ t _ hg) (by
      rcases hfz with q | q
      · exact .inl q
      · right; simp only [List.length_cons] at q; omega) (by simp at hl ⊢; omega) (fun x hx => h1 x (by simp [hx]))
    simp only [storeCells, Sem.run_bind, hst, Result.andThen_ok, ih, setRow_setRow]
    congr 3
    have e := list_seg_step cur.toList (o + i) v rest (by simp at hl ⊢; omega)
    simpa [Array.toList_setIfInBounds, Nat.add_assoc] using e

theorem strCells_vals (s : ByteArray) : strCells s = vals .u8 ((bys s).map UInt8.toNat) := by
  unfold strCells vals bys
  rw [List.map_map]
  rfl

theorem appendS_ob {P : Program} {base : Nat} (X : World) {ops : Array Oper} {rest : List Oper} {o : Oper} {a : Act} {Q : Exit → Act → World → Prop}
    (hgd : o.guard = none) (s x : Operand) (t u : TypeId) (hop : o.op = Op.call { callee := Callee.builtin Builtin.append, args := #[s, x], argTypes := #[t, u] })
    (i : TypeInfo) (ht : P.underlying t = some (.slice 5)) (hu : P.underlying u = some .string) (hi : P.info? 5 = some i) (hz : i.zero = some (.int .u8 0)) (h4 : i.size = 1) (h5 : i.bytes = 1)
    (v : Value) (ys : List Nat) (hs : a.eval s = v) (hob : Ob base X v ys) (tx : ByteArray) (hx : a.eval x = .string tx) (hn : ys.length + tx.size ≤ 100000000000) (hbase : base ≤ X.heap.size)
    (h : ∀ v' w', Ob base w' v' (ys ++ (bys tx).map UInt8.toNat) → X.grownBy w' v.ownBlock → wpList P ops Q rest (a.put o.dst v') w') : wpList P ops Q (o :: rest) a X := by
  obtain ⟨g, cap, cur, fz, rfl, hg1, hh, hf, hl, hsz, htk⟩ := hob
  have hvl : (vals .u8 ys).length = ys.length := by simp [vals]
  have hsl : ((bys tx).map UInt8.toNat).length = tx.size := by rw [List.length_map, bys_len]
  have hval : vals .u8 (ys ++ (bys tx).map UInt8.toNat) = vals .u8 ys ++ strCells tx := by rw [strCells_vals]; simp [vals]
  have run : ∀ v' w', (Builtin.append_ #[t, u] o.type #[.slice (some ⟨g, 0, none⟩) ys.length cap, .string tx]).run P X = .ok v' w' → Ob base w' v' (ys ++ (bys tx).map UInt8.toNat) → X.grownBy w' (some g) → wpList P ops Q (o :: rest) a X := fun v' w' hr h2 h3 => by
    refine wpList_plain hgd fun K hK => ?_
    unfold Oper.wp execOp
    simp only [hop, resolve, invoke, builtin, Sem.run_bind, Sem.run_pure, Result.andThen_ok, List.map_toArray, List.map_cons, List.map_nil, hs, hx, hr]
    exact hK _ _ (h v' w' h2 h3)
  by_cases hroom : ys.length + tx.size ≤ cap
  · have hf0 := run_firstCells_string (P := P) X 1 tx
    have hst := run_storeCells_atG P g ys.length 5 fz (strCells tx) 0 cur X hh (by
      rcases hf with q | q
      · exact .inl q
      · right; rw [strCells_length]; omega) (by rw [strCells_length]; omega) (strCells_oneCell tx)
    simp only [Nat.add_zero, strCells_length] at hst
    refine run (.slice (some ⟨g, 0, none⟩) (ys.length + tx.size) cap) (X.setRow g (cur.toList.take ys.length ++ strCells tx ++ cur.toList.drop (ys.length + tx.size)).toArray) ?_ ?_ ?_
    · simp [Builtin.append_, run_underlying ht, run_underlying hu, sizeOf, typeInfo, hi, h4, Builtin.lenOf, hroom, hf0, Addr.add_lit, hst]
    · refine ⟨g, cap, _, fz, by rw [List.length_append, hsl], hg1, setRow_heap X g cur _ 5 _ hh, hf, by rw [List.length_append, hsl]; exact hroom, ?_, ?_⟩
      · simp only [List.size_toArray, List.length_append, List.length_take, List.length_drop, Array.length_toList, strCells_length]
        omega
      · rw [hval, htk, List.length_append, hsl]
        simp only []
        have e : ys.length + tx.size = (vals .u8 ys ++ strCells tx).length := by rw [List.length_append, hvl, strCells_length]
        rw [e]
        exact List.take_left
    · exact ⟨rfl, rfl, rfl, by simp, fun k _ hk => setRow_other X g k _ (fun e => hk (by simp [e]))⟩
  · have holds : ∀ j w', (vals .u8 ys)[j]? = some w' → X.cell? ((⟨g, 0, none⟩ : Addr).add j) = some w' := fun j w' hj => by
      have hjl : j < ys.length := by
        rw [← hvl]
        exact (List.getElem?_eq_some_iff.1 hj).1
      have hc : cur[j]? = (vals .u8 ys)[j]? := by rw [← htk, List.getElem?_take_of_lt hjl, Array.getElem?_toList]
      rw [Addr.add_lit, Nat.zero_add]
      simp only [World.cell?, hh, Option.isSome_none, Bool.false_eq_true, if_false, hc, hj]
    have hr := run_append_grow_string (P := P) X t u o.type 5 i (.int .u8 0) ht hu hi hz ⟨g, 0, none⟩ ys.length cap (vals .u8 ys) (by rw [h4, hvl, Nat.mul_one]) holds tx (by omega) (by omega) (by rw [h5]; exact growslice_fits (by omega) (by omega))
    have hge := grownCap_ge X (ys.length + tx.size) cap 5
    refine run _ _ hr ⟨X.heap.size, _, _, (0, 0), by rw [List.length_append, hsl], hbase, heap_alloc_new X.drew _, .inl rfl, by rw [List.length_append, hsl]; exact hge, ?_, ?_⟩ ⟨rfl, rfl, rfl, by simp, fun k hk _ => heap_alloc_old X.drew _ hk⟩
    · have hz1 : (Value.int IntKind.u8 0).cells.size = 1 := rfl
      simp only [Array.size_append, List.size_toArray, size_zeroCells, hz1, hvl, strCells_length]
      omega
    · rw [hval, List.length_append, hsl]
      simp only [Array.toList_append, List.append_assoc]
      have e : ys.length + tx.size = (vals .u8 ys ++ strCells tx).length := by rw [List.length_append, hvl, strCells_length]
      rw [e, ← List.append_assoc]
      exact List.take_left

end Go.Proofs.YtihnakblcfealaaGreatDoor

namespace Go.Proofs.YtihnakblcfealaaGreatDoor
open Go.RowKit

theorem TxS.below {w w' : World} {v : Value} {ps : List (List UInt8)} (h : TxS w v ps) (hb : Below w.heap.size w w') : TxS w' v ps := by
  obtain ⟨ao, cap, h1, h2, h3⟩ := h
  exact ⟨ao, cap, h1, h2, fun i hi => by
    obtain ⟨g, o, e, hg, hc⟩ := h3 i hi
    exact ⟨g, o, e, Nat.lt_of_lt_of_le hg hb.size, fun j hj => (hb.cell hg).trans (hc j hj)⟩⟩

end Go.Proofs.YtihnakblcfealaaGreatDoor
