/-
  What affix's add answers.
  What affix's Parse answers.
  What affix's Print answers.
  The calls whose answers the document fixes.
  What the reference's Same answers of two lists of tokens.
  What the rows' list of package variables gives, and a world that holds them (affix's two tables beside the library's).
-/
import Derived.Test.YtobcbffakldfcaaDoorAB4
import Derived.WalkMore
import Derived.Test.YtobcbffakldfcaaDoorAB3
import Derived.Laws.StructEq
import Derived.Test.YtobcbffakldfcaaDoorRows
import Derived.Test.YtobcbffakldfcaaDoorAB2
import Derived.Shelf.Vars
import Derived.Lib.LaidU8
import Derived.Deep.DeepHandedRow
namespace Go.Proofs.YtobcbffakldfcaaDoor
open Go.RowKit

theorem keep_any {w : World} {D : Nat} {v : Value} {G F : List Tok} (t : Tok) (co : Int) (h : GatV w D v G (sizeT G : Int) co) (hr : GRel G F) (hl : G.length ≤ 64) (hs : sizeT G ≤ 64) (ht : mayTok t = true) (h4 : t.text.size ≤ 4) :
    Calls Tryd.prog 54 #[.pointer (some ⟨D, 0, none⟩), tokV t] w fun e w' => e = .returned (.tuple #[]) ∧ Gat w' D (addT G t) (sizeT (addT G t) : Int) co ∧ Below D w w' ∧ Oth D v.ownBlock w w' := by
  have hm := may_many ht
  rcases nil_or_snoc G with rfl | ⟨p, a, rfl⟩
  · refine (keep_nil t _ co h (by omega) (by omega) (by omega)).mono ?_
    rintro e w' ⟨h1, h2, h3⟩
    rw [addT_size, addT_nil, Int.natCast_add]
    exact ⟨h1, h2, h3⟩
  · obtain ⟨b1, b2, b3⟩ := hr.last rfl
    have hpl : (p ++ [a]).length = p.length + 1 := by simp
    refine (keep_more p a t _ co h (by omega) (by omega) (by omega) (by omega) (by omega) (by omega) (by omega) (by omega) (by omega)).mono ?_
    rintro e w' ⟨h1, h2, h3⟩
    rw [addT_size, addT_snoc, Int.natCast_add]
    exact ⟨h1, h2, h3⟩

def GatF (w : World) (D : Nat) (F : List Tok) : Prop := ∃ G, Gat w D G (sizeT G : Int) (coinsT F) ∧ GRel G F
theorem GatF.below {w w' : World} {D : Nat} {F : List Tok} (h : GatF w D F) (hb : Below w.heap.size w w') : GatF w' D F := by
  obtain ⟨G, h1, h2⟩ := h
  exact ⟨G, h1.below hb, h2⟩
theorem GatF.lt {w : World} {D : Nat} {F : List Tok} (h : GatF w D F) : D < w.heap.size := by
  obtain ⟨G, h1, h2⟩ := h
  exact h1.lt
theorem Blk.set2T {w : World} {b : Nat} {x0 x1 x2 : Value} {t : TypeId} (h : Blk w b #[x0, x1, x2] t) (v : Value) : Blk (w.setCell ⟨b, 2, none⟩ v) b #[x0, x1, v] t := by
  unfold Blk at *
  simp only [World.setCell, Array.getElem?_modify, if_true, h, Option.map_some]
  rfl
theorem Blk.oth {w w' : World} {D b : Nat} {r : Option Nat} {cs : Array Value} {t : TypeId} (h : Blk w b cs t) (ho : Oth D r w w') (h1 : b ≠ D) (h2 : some b ≠ r) : Blk w' b cs t := by
  unfold Blk at *
  rw [ho.2 b (Array.getElem?_eq_some_iff.1 h).1 h1 h2]
  exact h

set_option maxRecDepth 100000 in
set_option maxHeartbeats 4000000 in
theorem gadd_any {w : World} {D : Nat} {F : List Tok} (t : Tok) (h : GatF w D F) (ht : mayTok t = true) (h4 : t.text.size ≤ 4) (h5 : t.kind = 5 → t.many = 1) :
    Calls Tryd.prog 33 #[.pointer (some ⟨D, 0, none⟩), tokV t] w fun e w' => e = .returned (.bool (decide (coinsT (addT F t) ≤ 3))) ∧ (coinsT (addT F t) ≤ 3 → GatF w' D (addT F t)) ∧ Below D w w' := by
  have hDw := h.lt
  obtain ⟨G, ⟨v, h1⟩, hr⟩ := h
  have EC := hide (coins_add F t h5)
  have hcr := coins_range hr.goodF
  obtain ⟨co, hco⟩ : ∃ co, co = coinsT F := ⟨_, rfl⟩
  rw [← hco] at h1 hcr EC
  obtain ⟨hc0, hc3⟩ := hcr
  clear hco
  have HM : Hid (G.length ≤ 64 → sizeT G ≤ 64 → coinsT (addT F t) ≤ 3 → GRel (addT G t) (addT F t)) := hide (fun a b c => (hr.more t ht h4 a b c).2)
  have HS : Hid (¬ (G.length ≤ 64 ∧ sizeT G ≤ 64) → coinsT (addT F t) ≤ 3 → GRel G (addT F t)) := hide (fun a b => hr.stay t ht a b)
  have hl65 := hr.len
  have hs68 := hr.size
  have HK : Hid (G.length ≤ 64 → sizeT G ≤ 64 → ∀ X, GatV X D v G (sizeT G : Int) co → Calls Tryd.prog 54 #[.pointer (some ⟨D, 0, none⟩), tokV t] X fun e w' => e = .returned (.tuple #[]) ∧ Gat w' D (addT G t) (sizeT (addT G t) : Int) co ∧ Below D X w' ∧ Oth D v.ownBlock X w') := hide (fun a b X hX => keep_any t co hX hr a b ht h4)
  clear ht h4 h5 hr
  obtain ⟨F', hF'⟩ : ∃ F', F' = addT F t := ⟨_, rfl⟩
  rw [← hF'] at HM HS EC ⊢
  obtain ⟨G', hG'⟩ : ∃ G', G' = addT G t := ⟨_, rfl⟩
  rw [← hG'] at HM HK
  obtain ⟨C', hC'⟩ : ∃ C', C' = coinsT F' := ⟨_, rfl⟩
  rw [← hC'] at HM HS EC ⊢
  have HC' := hide hC'
  clear hF' hG' hC'
  obtain ⟨k, nn, x⟩ := t
  unfold tokV at HK ⊢
  simp only at HK EC ⊢
  have hnb : ∀ q, v.ownBlock = some q → q < w.heap.size := fun q hq => (World.ownsRow.lt h1.2 q hq).2
  obtain ⟨ao, cap, hv⟩ := own_slice h1.2
  subst hv
  obtain ⟨n, hn⟩ : ∃ n, n = G.length := ⟨_, rfl⟩
  have HN := hide hn
  rw [← hn] at hl65
  obtain ⟨W1, hW1⟩ : ∃ W1, W1 = w.alloc (.cells #[.int .i64 k, .int .i64 nn, .string x] 32) := ⟨_, rfl⟩
  have BW : Hid (Below w.heap.size w W1) := hide (by rw [hW1]; exact (Below.refl _ _).alloc (Nat.le_refl _) _)
  have T1 : Hid (Blk W1 w.heap.size #[.int .i64 k, .int .i64 nn, .string x] 32) := hide (by rw [hW1]; exact Blk.newAt w w.heap.size rfl _ _)
  have V1 : Hid (GatV W1 D (.slice ao G.length cap) G (sizeT G : Int) co) := hide ⟨h1.1.below BW.out h1.1.lt, own_below h1.2 BW.out⟩
  have HW1 := hide hW1.symm
  have nT : ¬ w.heap.size = D := by omega
  have nT' : ¬ D = w.heap.size := by omega
  have NT : Hid (some w.heap.size ≠ (Value.slice ao G.length cap).ownBlock) := hide (fun e => Nat.lt_irrefl _ (hnb _ e.symm))
  clear h1 hnb hW1
  have c0 := V1.out.1.cell 0
  have c1 := V1.out.1.cell 1
  have d0 := T1.out.cell 0
  have d1 := T1.out.cell 1
  have d2 := T1.out.cell 2
  simp only [← hn] at c0
  clear hn
  obtain ⟨s, hs⟩ : ∃ s, s = sizeT G := ⟨_, rfl⟩
  rw [← hs] at hs68
  simp only [← hs] at c1
  have HS' := hide hs
  clear hs
  by_cases hb : n ≤ 64 ∧ s ≤ 64
  · obtain ⟨ha, hb⟩ := hb
    have KC := hide (HK.out (by rw [← HN.out]; exact ha) (by rw [← HS'.out]; exact hb) W1 V1.out)
    have GR := hide (HM.out (by rw [← HN.out]; exact ha) (by rw [← HS'.out]; exact hb))
    clear HK HM HS
    go_enter Tryd.func33, Tryd.ntmps33
    go_wp2_with (simp only [HW1.out])
    refine KC.out.mono ?_
    rintro e w2 ⟨rfl, ⟨v2, hg1, hg2⟩, hbD, hO⟩
    have T2 := hide (T1.out.oth hO nT NT.out)
    have G1 := hide hg1
    have G2 := hide hg2
    have B2 := hide ((BW.out.mono (Nat.le_of_lt hDw)).trans hbD)
    clear KC hbD hO hg1 hg2 T1 V1 c0 c1 d0 d1 d2
    have c2 := G1.out.cell 2
    have f2 := G1.out.free 2
    have d0 := T2.out.cell 0
    have n2 : ¬ w.heap.size = D := nT
    by_cases h5 : k = 5
    · have h5' : (k == 5) = true := beq_iff_eq.2 h5
      have EC' : Hid (C' = co + 1) := hide (by rw [EC.out, if_pos h5])
      have Z1 := hide (G1.out.set2T (.int .i64 (co + 1)))
      have z2 := Z1.out.cell 2
      clear EC h5
      go_wp2
      go_ret
      exact ⟨by rw [EC'.out]; rfl, fun hc => ⟨G', ⟨v2, by rw [← HC'.out, EC'.out]; exact Z1.out, own_set (i := 2) (u := .int .i64 (co + 1)) G2.out (Nat.lt_succ_self D)⟩, GR.out hc⟩, B2.out.setCell (p := ⟨D, 2, none⟩) (Nat.le_refl _) _⟩
    · have h5' : (k == 5) = false := beq_eq_false_iff_ne.2 h5
      have EC' : Hid (C' = 0) := hide (by rw [EC.out, if_neg h5])
      have Z1 := hide (G1.out.set2T (.int .i64 0))
      have z2 := Z1.out.cell 2
      clear EC h5
      go_wp2
      go_ret
      exact ⟨by rw [EC'.out]; rfl, fun hc => ⟨G', ⟨v2, by rw [← HC'.out, EC'.out]; exact Z1.out, own_set (i := 2) (u := .int .i64 0) G2.out (Nat.lt_succ_self D)⟩, GR.out hc⟩, B2.out.setCell (p := ⟨D, 2, none⟩) (Nat.le_refl _) _⟩
  · have GR := hide (HS.out (by rw [← HN.out, ← HS'.out]; exact hb))
    clear HK HM HS
    by_cases ha : n ≤ 64
    · have hb' : ¬ s ≤ 64 := fun q => hb ⟨ha, q⟩
      clear hb
      have c2 := V1.out.1.cell 2
      have f2 := V1.out.1.free 2
      have G1 := hide V1.out.1
      have G2 := hide V1.out.2
      have B2 := hide (BW.out.mono (Nat.le_of_lt hDw))
      clear V1 T1
      by_cases h5 : k = 5
      · have h5' : (k == 5) = true := beq_iff_eq.2 h5
        have EC' : Hid (C' = co + 1) := hide (by rw [EC.out, if_pos h5])
        have Z1 := hide (G1.out.set2T (.int .i64 (co + 1)))
        have z2 := Z1.out.cell 2
        clear EC h5
        go_enter Tryd.func33, Tryd.ntmps33
        go_wp2_with (simp only [HW1.out])
        go_wp2
        go_ret
        exact ⟨by rw [EC'.out]; rfl, fun hc => ⟨G, ⟨_, by rw [← HC'.out, EC'.out]; exact Z1.out, own_set (i := 2) (u := .int .i64 (co + 1)) G2.out (Nat.lt_succ_self D)⟩, GR.out hc⟩, B2.out.setCell (p := ⟨D, 2, none⟩) (Nat.le_refl _) _⟩
      · have h5' : (k == 5) = false := beq_eq_false_iff_ne.2 h5
        have EC' : Hid (C' = 0) := hide (by rw [EC.out, if_neg h5])
        have Z1 := hide (G1.out.set2T (.int .i64 (0)))
        have z2 := Z1.out.cell 2
        clear EC h5
        go_enter Tryd.func33, Tryd.ntmps33
        go_wp2_with (simp only [HW1.out])
        go_wp2
        go_ret
        exact ⟨by rw [EC'.out]; rfl, fun hc => ⟨G, ⟨_, by rw [← HC'.out, EC'.out]; exact Z1.out, own_set (i := 2) (u := .int .i64 (0)) G2.out (Nat.lt_succ_self D)⟩, GR.out hc⟩, B2.out.setCell (p := ⟨D, 2, none⟩) (Nat.le_refl _) _⟩
    · clear hb
      have c2 := V1.out.1.cell 2
      have f2 := V1.out.1.free 2
      have G1 := hide V1.out.1
      have G2 := hide V1.out.2
      have B2 := hide (BW.out.mono (Nat.le_of_lt hDw))
      clear V1 T1
      by_cases h5 : k = 5
      · have h5' : (k == 5) = true := beq_iff_eq.2 h5
        have EC' : Hid (C' = co + 1) := hide (by rw [EC.out, if_pos h5])
        have Z1 := hide (G1.out.set2T (.int .i64 (co + 1)))
        have z2 := Z1.out.cell 2
        clear EC h5
        go_enter Tryd.func33, Tryd.ntmps33
        go_wp2_with (simp only [HW1.out])
        go_wp2
        go_ret
        exact ⟨by rw [EC'.out]; rfl, fun hc => ⟨G, ⟨_, by rw [← HC'.out, EC'.out]; exact Z1.out, own_set (i := 2) (u := .int .i64 (co + 1)) G2.out (Nat.lt_succ_self D)⟩, GR.out hc⟩, B2.out.setCell (p := ⟨D, 2, none⟩) (Nat.le_refl _) _⟩
      · have h5' : (k == 5) = false := beq_eq_false_iff_ne.2 h5
        have EC' : Hid (C' = 0) := hide (by rw [EC.out, if_neg h5])
        have Z1 := hide (G1.out.set2T (.int .i64 (0)))
        have z2 := Z1.out.cell 2
        clear EC h5
        go_enter Tryd.func33, Tryd.ntmps33
        go_wp2_with (simp only [HW1.out])
        go_wp2
        go_ret
        exact ⟨by rw [EC'.out]; rfl, fun hc => ⟨G, ⟨_, by rw [← HC'.out, EC'.out]; exact Z1.out, own_set (i := 2) (u := .int .i64 (0)) G2.out (Nat.lt_succ_self D)⟩, GR.out hc⟩, B2.out.setCell (p := ⟨D, 2, none⟩) (Nat.le_refl _) _⟩

end Go.Proofs.YtobcbffakldfcaaDoor

namespace Go.Proofs.YtobcbffakldfcaaDoor
open Go.RowKit

theorem bys_cut (s : ByteArray) (i n : Nat) : bys (s.extract i (i + n)) = ((bys s).drop i).take n := by
  show (s.extract i (i + n)).data.toList = _
  rw [ByteArray.data_extract, Array.toList_extract]
  show (s.data.toList.drop i).take (i + n - i) = _
  rw [Nat.add_sub_cancel_left]
  rfl
theorem mk_cut (s : ByteArray) (i n : Nat) : s.extract i (i + n) = mkB (((bys s).drop i).take n) := by
  rw [← mkB_bys (s.extract i (i + n)), bys_cut]

def ParA (w w' : World) (v : Value) (ts : List Tok) : Prop := w'.ownsRow w.heap.size 32 3 v ts.length (cellsT ts)

theorem own_base {w : World} {B B' n : Nat} {v : Value} {xs : List Value} (h : w.ownsRow B 32 3 v n xs) (hb : B' ≤ B) : w.ownsRow B' 32 3 v n xs := by
  refine ⟨h.1, ?_⟩
  rcases h.2 with q | ⟨g, cap, cur, h1, h2, h3⟩
  · exact .inl q
  · exact .inr ⟨g, cap, cur, h1, Nat.le_trans hb h2, h3⟩
theorem TSl.of_own {w : World} {B : Nat} {v : Value} {ts : List Tok} (h : w.ownsRow B 32 3 v ts.length (cellsT ts)) : TSl w v ts := by
  by_cases hn : ts = []
  · subst hn
    obtain ⟨ao, cap, rfl⟩ := own_slice h
    exact ⟨ao, cap, rfl, Nat.zero_le _, .inl rfl⟩
  · have hc : ∃ g cap, v = .slice (some ⟨g, 0, none⟩) ts.length cap ∧ ts.length ≤ cap := by
      rcases h.2 with ⟨_, q⟩ | ⟨g, cap, cur, hv, _, _, hc, _⟩
      · exact absurd (List.eq_nil_of_length_eq_zero q) hn
      · exact ⟨g, cap, hv, hc⟩
    obtain ⟨g, cap, rfl, hle⟩ := hc
    refine ⟨_, cap, rfl, hle, .inr ⟨g, 0, rfl, fun i hi => ?_⟩⟩
    obtain ⟨a, b, c⟩ := cells_at ts i hi
    rw [Nat.zero_add]
    exact ⟨(h.cellAt _ (by omega)).trans a, (h.cellAt _ (by omega)).trans b, (h.cellAt _ (by omega)).trans c⟩
theorem size_tok : ∀ (ts : List Tok) (i : Nat), (tokN ts i).text.size ≤ sizeT ts
  | [], i => by
    rw [show tokN [] i = Tok.zero from by unfold tokN; simp]
    exact Nat.zero_le _
  | t :: ts, 0 => by
    show t.text.size ≤ _
    unfold sizeT
    rw [List.map_cons, List.sum_cons]
    omega
  | t :: ts, i + 1 => by
    have := size_tok ts i
    show (tokN ts i).text.size ≤ _
    unfold sizeT at *
    rw [List.map_cons, List.sum_cons]
    omega
theorem chkT_is (ts : List Tok) : chkT ts = 0 ∨ chkT ts = 131 ∨ chkT ts = 132 := by
  unfold chkT
  repeat' split
  all_goals simp
theorem may_txt {r : List UInt8} (h : IsR r) : mayTok (txtT r) = true := by
  unfold mayTok
  rw [if_pos (show (txtT r).kind = 0 from rfl)]
  have h1 : (mkB r).size = r.length := by rw [← bys_len]; rfl
  have h2 : (runesL r).isSome = true := by
    have := runesL_cons h []
    rw [List.append_nil] at this
    rw [this]; rfl
  show (decide ((mkB r).size ≠ 0) && ((runesL r).isSome && decide ((0 : Int) = 0))) = true
  rw [h1, h2, decide_eq_true h.len]
  rfl
theorem may_pln {r : List UInt8} (h : IsR r) : mayTok (plnT r) = true ∧ (plnT r).text.size ≤ 4 ∧ ((plnT r).kind = 5 → (plnT r).many = 1) := by
  have h1 : (mkB r).size = r.length := by rw [← bys_len]; rfl
  have h4 : r.length ≤ 4 := by rw [← h.1]; exact (runeL_le r).2
  unfold plnT
  split
  · refine ⟨may_txt h, ?_, fun e => ?_⟩
    · show (mkB r).size ≤ 4
      omega
    · exact absurd e (by show ¬ (0 : Int) = 5; decide)
  · next hk =>
    have hr : kindB r = 1 ∨ kindB r = 2 ∨ kindB r = 3 ∨ kindB r = 4 ∨ kindB r = 5 := by
      unfold kindB at hk ⊢
      repeat' split
      all_goals first | omega | (exfalso; simp_all)
    rcases hr with e | e | e | e | e <;> rw [e] <;> decide
theorem txt_size {r : List UInt8} (h : IsR r) : (txtT r).text.size ≤ 4 := by
  have h1 : (mkB r).size = r.length := by rw [← bys_len]; rfl
  have h4 : r.length ≤ 4 := by rw [← h.1]; exact (runeL_le r).2
  show (mkB r).size ≤ 4
  omega

theorem runsP_bind (st : Nat) (l : List Tok) (r : List UInt8) (rs : List (List UInt8)) : runsP st l (r :: rs) = (stepP st l r).bind fun q => runsP q.1 q.2 rs := by
  rw [runsP_cons]
  cases stepP st l r <;> rfl
def endR (R : Option (Nat × List Tok)) (V : Bool) : Nat × List Tok := match R with
  | none => (131, [])
  | some q => if V = false then (131, []) else if q.1 = 1 ∨ q.1 = 2 then (130, []) else if chkT q.2 = 0 then (0, q.2) else (chkT q.2, [])
theorem parseR_end (l : List UInt8) : parseR l = endR (runsP 0 [] (rns l)) (runesL l).isSome := by
  unfold parseR endR
  cases runsP 0 [] (rns l) with
  | none => rfl
  | some q => cases runesL l <;> rfl

set_option maxRecDepth 100000 in
set_option maxHeartbeats 4000000 in
theorem Parse_any (s : ByteArray) (w : World) (hs : s.size ≤ 1000000000000000000) (hT : Wd w) :
    Calls Tryd.prog 19 #[.string s] w fun e w' => ∃ v, e = .returned (.tuple #[v, .int .i64 ((parseR (bys s)).1 : Int)]) ∧ ParA w w' v (parseR (bys s)).2 ∧ Below w.heap.size w w' := by
  obtain ⟨R, hR⟩ : ∃ R, R = runsP 0 [] (rns (bys s)) := ⟨_, rfl⟩
  obtain ⟨V, hV⟩ : ∃ V, V = (runesL (bys s)).isSome := ⟨_, rfl⟩
  obtain ⟨A, hA⟩ : ∃ A, A = parseR (bys s) := ⟨_, rfl⟩
  have EA : Hid (A = endR R V) := hide (by rw [hA, hR, hV, parseR_end])
  rw [← hA]
  have HR := hide hR
  have HV := hide hV
  clear hR hV hA
  have HT := hide hT
  clear hT
  have B1 : Hid (Below w.heap.size w (w.alloc (.cells #[.slice none 0 0, .int .i64 0, .int .i64 0] 56))) := hide ((Below.refl _ _).alloc (Nat.le_refl _) _)
  have G1 : Hid (GatF (w.alloc (.cells #[.slice none 0 0, .int .i64 0, .int .i64 0] 56)) w.heap.size []) := hide (by
    exact ⟨[], ⟨_, Blk.newAt w w.heap.size rfl _ _, World.ownsRow_nil _ _ _ _⟩, GRel.nil⟩)
  go_enter Tryd.func19, Tryd.ntmps19
  go_wp2
  go_step3
  go_wp2
  go_step3
  go_wp2
  go_loopw [5, 6, 7] (fun x p z wr => ∃ (st pos : Nat) (n : Int) (F : List Tok), st ≤ 3 ∧ pos ≤ s.size ∧ x = .int .i64 (st : Int) ∧ p = .int .i64 (pos : Int) ∧ z = .int .i64 n ∧ Hid (GatF wr w.heap.size F ∧ runsP st F (rns ((bys s).drop pos)) = R ∧ (runesL ((bys s).drop pos)).isSome = V) ∧ Hid (Below w.heap.size w wr)) (fun _ p _ _ => s.size - (intOf p).toNat)
  case atStart => exact ⟨0, 0, 0, [], Nat.zero_le _, Nat.zero_le _, rfl, rfl, rfl, hide ⟨G1.out, by rw [HR.out, List.drop_zero], by rw [HV.out, List.drop_zero]⟩, B1⟩
  case round =>
    obtain ⟨st, pos, n, F, hst, hpos, rfl, rfl, rfl, HF, HB⟩ := hrel
    have TW := hide (HT.out.below HB.out)
    by_cases hlt : pos < s.size
    · have hlt' : (pos : Int) < (s.size : Int) := by omega
      have hra : runeAt s (pos : Int) = runeL ((bys s).drop pos) := by
        unfold runeAt
        rw [if_neg (by omega), Int.toNat_natCast]
      have hle := runeL_le ((bys s).drop pos)
      rw [List.length_drop, bys_len] at hle
      have H1 := hide (Rune_any s (pos : Int) wr TW.out.u8)
      rw [hra] at H1
      obtain ⟨m, hm⟩ : ∃ m, m = runeL ((bys s).drop pos) := ⟨_, rfl⟩
      rw [← hm] at H1 hle
      obtain ⟨hle1, hle2⟩ := hle
      have hmk := mk_cut s pos m
      obtain ⟨r, hr⟩ : ∃ r, r = s.extract pos (pos + m) := ⟨_, rfl⟩
      have Hr := hide hr.symm
      have HM := hide hm
      have E1 : Hid (bys r = ((bys s).drop pos).take m) := hide (by rw [hr, bys_cut])
      clear hr hm hra hmk
      go_wp2_with fail
      refine H1.out.mono ?_
      rintro e w1 ⟨rfl, hb1⟩
      have TW1 := hide (TW.out.below hb1)
      have GF1 := hide (HF.out.1.below hb1)
      have HB1 := hide (HB.out.trans (hb1.mono HB.out.size))
      have H2 := hide (after_any st r w1 hst TW1.out)
      have hx0 : (0 : Int) ≤ (pos : Int) := by omega
      have hx1 : (pos : Int) + (m : Int) ≤ (s.size : Int) := by omega
      clear hb1 H1 TW
      go_wp2_with (simp only [Hr.out])
      refine H2.out.mono ?_
      rintro e w2 ⟨rfl, rfl⟩
      clear H2
      have hq3 := aft_lt st (bys r)
      obtain ⟨q, hq⟩ : ∃ q, q = aft st (bys r) := ⟨_, rfl⟩
      rw [← hq] at hq3 ⊢
      have HQ := hide hq.symm
      clear hq
      rcases Nat.eq_zero_or_pos m with hm0 | hmp
      · have EE : Hid (A = (131, [])) := hide (by
          have hz : runeL ((bys s).drop pos) = 0 := by rw [← HM.out]; exact hm0
          have hne : (bys s).drop pos ≠ [] := by
            intro e
            have := congrArg List.length e
            rw [List.length_drop, bys_len] at this
            simp at this; omega
          have e1 := HF.out.2.1
          have e2 := HF.out.2.2
          rw [rns_bad _ hz] at e1
          rw [runesL_step _ hne, if_pos hz] at e2
          rw [EA.out, ← e1, ← e2]
          rfl)
        have hm' : ((m : Int) == 0) = true := by rw [hm0]; rfl
        have HBX := HB1
        clear HF EA HM E1 hm0 hle1 hle2 TW1 GF1 HQ HR HV
        go_wp2
        rw [Exit.noGoto_ret]
        refine bodyPost_ret (results_tmp2 rfl _ _ _) rfl ?_
        exact ⟨_, by rw [EE.out]; rfl, by rw [EE.out]; exact World.ownsRow_nil _ _ _ _, HBX.out⟩
      · have hm' : ((m : Int) == 0) = false := beq_eq_false_iff_ne.2 (by omega)
        have hne0 : runeL ((bys s).drop pos) ≠ 0 := by rw [← HM.out]; omega
        have RR : Hid (IsR (bys r)) := hide (by rw [E1.out, HM.out]; exact isR_take _ hne0)
        have ER : Hid (rns ((bys s).drop pos) = bys r :: rns ((bys s).drop (pos + m))) := hide (by rw [rns_step _ hne0, E1.out, ← HM.out, List.drop_drop])
        have EV : Hid ((runesL ((bys s).drop (pos + m))).isSome = V) := hide (by
          have e2 := HF.out.2.2
          have hne : (bys s).drop pos ≠ [] := by
            intro e
            rw [e] at hne0
            exact hne0 rfl
          rw [runesL_step _ hne, if_neg hne0, ← HM.out, Option.isSome_map, List.drop_drop] at e2
          exact e2)
        have ES : Hid (R = (stepP st F (bys r)).bind fun z => runsP z.1 z.2 (rns ((bys s).drop (pos + m)))) := hide (by rw [← HF.out.2.1, ER.out, runsP_bind])
        have hc : q = 1 ∨ q = 3 ∨ q = 2 ∨ q = 0 := by omega
        clear HF HM ER hne0 E1
        rcases hc with rfl | rfl | rfl | rfl
        · have EX : Hid (runsP 1 F (rns ((bys s).drop (pos + m))) = R) := hide (by
            rw [ES.out]
            have : stepP st F (bys r) = some (1, F) := by unfold stepP; rw [HQ.out, if_pos (.inl rfl)]
            rw [this]
            rfl)
          have GX := GF1
          have HBX := HB1
          clear ES HQ RR
          go_wp2
          exact ⟨⟨1, pos + m, (m : Int), F, by omega, by omega, by first | rfl | go_num, by go_num, by first | rfl | go_num, hide ⟨GX.out, EX.out, EV.out⟩, HBX⟩, by simp [intOf]; omega⟩
        · have EX : Hid (runsP 3 F (rns ((bys s).drop (pos + m))) = R) := hide (by
            rw [ES.out]
            have : stepP st F (bys r) = some (3, F) := by unfold stepP; rw [HQ.out, if_pos (.inr rfl)]
            rw [this]
            rfl)
          have GX := GF1
          have HBX := HB1
          clear ES HQ RR
          go_wp2
          exact ⟨⟨3, pos + m, (m : Int), F, by omega, by omega, by first | rfl | go_num, by go_num, by first | rfl | go_num, hide ⟨GX.out, EX.out, EV.out⟩, HBX⟩, by simp [intOf]; omega⟩
        · have EX : Hid (runsP 2 (addT F (txtT (bys r))) (rns ((bys s).drop (pos + m))) = R) := hide (by
            rw [ES.out]
            have : stepP st F (bys r) = some (2, addT F (txtT (bys r))) := by unfold stepP; rw [HQ.out, if_neg (by decide), if_pos rfl]
            rw [this]
            rfl)
          have HC := hide (gadd_any (txtT (bys r)) GF1.out (may_txt RR.out) (txt_size RR.out) (fun e => absurd e (by show ¬ (0 : Int) = 5; decide)))
          rw [show tokV (txtT (bys r)) = .agg #[.int .i64 0, .int .i64 0, .string r] from rfl] at HC
          have hco : coinsT (addT F (txtT (bys r))) ≤ 3 := by rw [coins_txt]; decide
          rw [decide_eq_true hco] at HC
          have HCO := hide hco
          clear ES HQ RR hco
          go_wp2_with fail
          refine HC.out.mono ?_
          rintro e w3 ⟨rfl, hg, hb3⟩
          have GX := hide (hg HCO.out)
          have HBX := hide (HB1.out.trans hb3)
          clear HC hg hb3
          go_wp2
          exact ⟨⟨2, pos + m, (m : Int), _, by omega, by omega, by first | rfl | go_num, by go_num, by first | rfl | go_num, hide ⟨GX.out, EX.out, EV.out⟩, HBX⟩, by simp [intOf]; omega⟩
        · have HL := hide (isLetter_any r w1 RR.out TW1.out)
          have hst0 : ¬ ((0 : Nat) = 1 ∨ (0 : Nat) = 3) := by decide
          have hst2 : ¬ ((0 : Nat) = 2) := by decide
          cases hlb : letB (bys r) with
          | true =>
            rw [hlb] at HL
            have EE : Hid (A = (131, [])) := hide (by
              rw [EA.out, ES.out]
              have : stepP st F (bys r) = none := by unfold stepP; rw [HQ.out, if_neg hst0, if_neg hst2, if_pos hlb]
              rw [this]
              rfl)
            have HBX := HB1
            clear ES EA EV HQ RR hlb hst0 hst2 TW1 GF1
            go_wp2_with fail
            refine HL.out.mono ?_
            rintro e w3 ⟨rfl, rfl⟩
            go_wp2
            rw [Exit.noGoto_ret]
            refine bodyPost_ret (results_tmp2 rfl _ _ _) rfl ?_
            exact ⟨_, by rw [EE.out]; rfl, by rw [EE.out]; exact World.ownsRow_nil _ _ _ _, HBX.out⟩
          | false =>
            rw [hlb] at HL
            have HP := hide (plain_any r w1 TW1.out)
            obtain ⟨m1, m2, m3⟩ := may_pln RR.out
            have HC : Hid (∀ X, Below w1.heap.size w1 X → Calls Tryd.prog 33 #[.pointer (some ⟨w.heap.size, 0, none⟩), tokV (plnT (bys r))] X fun e w' => e = .returned (.bool (decide (coinsT (addT F (plnT (bys r))) ≤ 3))) ∧ (coinsT (addT F (plnT (bys r))) ≤ 3 → GatF w' w.heap.size (addT F (plnT (bys r)))) ∧ Below w.heap.size X w') := hide (fun X hX => gadd_any (plnT (bys r)) (GF1.out.below hX) m1 m2 m3)
            have E0 : Hid (stepP st F (bys r) = if coinsT (addT F (plnT (bys r))) ≤ 3 then some (0, addT F (plnT (bys r))) else none) := hide (by
              unfold stepP
              rw [HQ.out, if_neg hst0, if_neg hst2, if_neg (by rw [hlb]; decide)])
            obtain ⟨T, hT⟩ : ∃ T, T = tokV (plnT (bys r)) := ⟨_, rfl⟩
            rw [← hT] at HP HC
            obtain ⟨F2, hF2⟩ : ∃ F2, F2 = addT F (plnT (bys r)) := ⟨_, rfl⟩
            rw [← hF2] at E0 HC
            clear hT hF2 m1 m2 m3 HQ RR hlb hst0 hst2 TW1
            go_wp2_with fail
            refine HL.out.mono ?_
            rintro e w3 ⟨rfl, rfl⟩
            go_wp2_with fail
            refine HP.out.mono ?_
            rintro e w3 ⟨rfl, hb3⟩
            have HC2 := hide (HC.out w3 hb3)
            have HB3 := hide (HB1.out.trans (hb3.mono HB1.out.size))
            clear HL HP HC hb3
            by_cases hco : coinsT F2 ≤ 3
            · have EX : Hid (runsP 0 F2 (rns ((bys s).drop (pos + m))) = R) := hide (by rw [ES.out, E0.out, if_pos hco]; rfl)
              rw [decide_eq_true hco] at HC2
              have HCO := hide hco
              clear hco ES E0
              go_wp2_with fail
              refine HC2.out.mono ?_
              rintro e w4 ⟨rfl, hg, hb4⟩
              have GX := hide (hg HCO.out)
              have HBX := hide (HB3.out.trans hb4)
              clear HC2 hg hb4
              go_wp2
              exact ⟨⟨0, pos + m, (m : Int), F2, by omega, by omega, by first | rfl | go_num, by go_num, by first | rfl | go_num, hide ⟨GX.out, EX.out, EV.out⟩, HBX⟩, by simp [intOf]; omega⟩
            · have EE : Hid (A = (131, [])) := hide (by rw [EA.out, ES.out, E0.out, if_neg hco]; rfl)
              rw [decide_eq_false hco] at HC2
              clear hco ES E0 EA EV
              go_wp2_with fail
              refine HC2.out.mono ?_
              rintro e w4 ⟨rfl, hg, hb4⟩
              have HBX := hide (HB3.out.trans hb4)
              clear HC2 hg hb4
              go_wp2
              rw [Exit.noGoto_ret]
              refine bodyPost_ret (results_tmp2 rfl _ _ _) rfl ?_
              exact ⟨_, by rw [EE.out]; rfl, by rw [EE.out]; exact World.ownsRow_nil _ _ _ _, HBX.out⟩
    · obtain rfl : pos = s.size := by omega
      have hlt' : ¬ (s.size : Int) < (s.size : Int) := by omega
      have e1 := HF.out.2.1
      have e2 := HF.out.2.2
      rw [List.drop_eq_nil_of_le (by rw [bys_len]; exact Nat.le_refl _)] at e1 e2
      have EQ : Hid (A = if st = 1 ∨ st = 2 then (130, []) else if chkT F = 0 then (0, F) else (chkT F, [])) := hide (by
        rw [EA.out, ← e1, ← e2]
        show endR (some (st, F)) true = _
        unfold endR
        simp only [Bool.true_eq_false, if_false])
      obtain ⟨G, ⟨v, g1, g2⟩, gr⟩ := HF.out.1
      have TS := hide (TSl.of_own g2)
      have hG65 := gr.len
      have SZ : Hid (SzT G) := hide (fun i => Nat.le_trans (size_tok G i) (by have := gr.size; omega))
      have CK := hide (Check_any TS.out (by omega) SZ.out TW.out.u8)
      rw [gr.chk] at CK
      have EG := hide gr.eq
      have c0 := g1.cell 0
      have K1 := hide g1
      have K2 := hide g2
      clear e1 e2 HF EA hlt hpos g1 g2 gr TS SZ TW HR HV
      have hc : st = 1 ∨ st = 2 ∨ st = 0 ∨ st = 3 := by omega
      clear hst
      rcases hc with rfl | rfl | hc
      · have EE : Hid (A = (130, [])) := hide (by rw [EQ.out, if_pos (.inl rfl)])
        clear EQ CK EG
        go_wp2
        refine bodyPost_ret (results_tmp2 rfl _ _ _) rfl ?_
        exact ⟨_, by rw [EE.out]; rfl, by rw [EE.out]; exact World.ownsRow_nil _ _ _ _, HB.out⟩
      · have EE : Hid (A = (130, [])) := hide (by rw [EQ.out, if_pos (.inr rfl)])
        clear EQ CK EG
        go_wp2
        refine bodyPost_ret (results_tmp2 rfl _ _ _) rfl ?_
        exact ⟨_, by rw [EE.out]; rfl, by rw [EE.out]; exact World.ownsRow_nil _ _ _ _, HB.out⟩
      · have EE : Hid (A = if chkT F = 0 then (0, F) else (chkT F, [])) := hide (by rw [EQ.out, if_neg (by omega)])
        have hci := chkT_is F
        obtain ⟨C, hC⟩ : ∃ C, C = chkT F := ⟨_, rfl⟩
        rw [← hC] at EE CK hci
        have EG' : Hid (C = 0 → G = F) := hide (fun h => EG.out (by rw [← hC]; exact h))
        clear EQ hC EG
        rcases hci with rfl | hci
        · have E2 : Hid (A = (0, F)) := hide (by rw [EE.out, if_pos rfl])
          have E3 := hide (EG'.out rfl)
          have ex : Hid (∀ wz, Below wr.heap.size wr wz → ∃ v', Ending.returned (Value.tuple #[v, .int .i64 0]) = .returned (.tuple #[v', .int .i64 (A.1 : Int)]) ∧ ParA w wz v' A.2 ∧ Below w.heap.size w wz) := hide (fun wz hz => ⟨v, by rw [E2.out]; rfl, by
            rw [E2.out]
            show wz.ownsRow w.heap.size _ 3 v F.length (cellsT F)
            rw [← E3.out]
            exact own_base (own_below K2.out hz) (Nat.le_succ _), HB.out.trans (hz.mono HB.out.size)⟩)
          have KC : Hid (∀ wz, Below wr.heap.size wr wz → wz.cell? ⟨w.heap.size, 0, none⟩ = some v) := hide (fun wz hz => cell_on hz c0)
          clear EE E2 E3 EG' K1 K2 HB
          rcases hc with rfl | rfl
          all_goals
            go_wp2_with fail
            refine CK.out.mono ?_
            rintro e w2 ⟨rfl, hb⟩
            have d0 := KC.out w2 hb
            have FIN := hide (ex.out w2 hb)
            clear hb CK
            go_wp2
            rw [Exit.noGoto_ret]
            refine bodyPost_ret (results_tmp2 rfl _ _ _) rfl ?_
            exact FIN.out
        · have E2 : Hid (A = (C, [])) := hide (by rw [EE.out, if_neg (by omega)])
          have HBX : Hid (∀ wz, Below wr.heap.size wr wz → Below w.heap.size w wz) := hide (fun wz hz => HB.out.trans (hz.mono HB.out.size))
          clear EE EG' K1 K2 HB
          rcases hci with rfl | rfl
          all_goals
            rcases hc with rfl | rfl
            all_goals
              go_wp2_with fail
              refine CK.out.mono ?_
              rintro e w2 ⟨rfl, hb⟩
              have FIN := hide (HBX.out w2 hb)
              clear hb CK
              go_wp2
              rw [Exit.noGoto_ret]
              refine bodyPost_ret (results_tmp2 rfl _ _ _) rfl ?_
              exact ⟨_, by rw [E2.out]; rfl, by rw [E2.out]; exact World.ownsRow_nil _ _ _ _, FIN.out⟩

end Go.Proofs.YtobcbffakldfcaaDoor

namespace Go.Proofs.YtobcbffakldfcaaDoor
open Go.RowKit

theorem prt_len {t : Tok} (h : mayTok t = true) : (prtT t).length ≤ 4 * t.text.size + 9 := by
  unfold prtT
  by_cases h0 : t.kind = 0
  · rw [if_pos h0]
    have hv := (may_zero h h0).2.1
    have h1 := textR_len (rns (bys t.text)) (rns_isR _ _ (Nat.le_refl _))
    rw [flat_rns _ _ (Nat.le_refl _) hv, bys_len] at h1
    omega
  · rw [if_neg h0]
    have hm := may_many h
    have hs : (sgnL t.kind).length ≤ 3 := by
      unfold sgnL
      repeat' split
      all_goals decide
    rw [List.length_flatten, List.map_replicate, List.sum_replicate_nat]
    have h3 : (max 1 t.many).toNat ≤ 3 := by omega
    have := Nat.mul_le_mul h3 hs
    omega
theorem prtL_snoc (ts : List Tok) (k : Nat) (h : k < ts.length) : prtL (ts.take (k + 1)) = prtL (ts.take k) ++ prtT (tokN ts k) := by
  have e : tokN ts k = ts[k] := tokN_get (List.getElem?_eq_getElem h)
  unfold prtL
  rw [List.take_add_one, List.getElem?_eq_getElem h, e, List.flatMap_append]
  simp
theorem prtL_len : ∀ ts : List Tok, (∀ t ∈ ts, mayTok t = true) → (prtL ts).length ≤ 4 * sizeT ts + 9 * ts.length
  | [], _ => Nat.zero_le _
  | t :: ts, h => by
    have h1 := prt_len (h t List.mem_cons_self)
    have h2 := prtL_len ts (fun x hx => h x (List.mem_cons_of_mem _ hx))
    unfold prtL sizeT at *
    rw [List.flatMap_cons, List.length_append, List.map_cons, List.sum_cons, List.length_cons]
    omega
theorem chk_ok {ts : List Tok} (h : chkT ts = 0) : (∀ t ∈ ts, mayTok t = true) ∧ ts.length ≤ 64 ∧ sizeT ts ≤ 64 := by
  obtain ⟨h1, h2⟩ := chkT_bad h
  unfold longT at h2
  simp at h2
  exact ⟨badT_may ts none h1, h2⟩
theorem tokN_mem {ts : List Tok} {i : Nat} (h : i < ts.length) : tokN ts i ∈ ts := by
  rw [tokN_get (List.getElem?_eq_getElem h)]
  exact List.getElem_mem h
theorem rep_eq (l : List UInt8) : ∀ n, Lib.repeatL l n = (List.replicate n l).flatten
  | 0 => rfl
  | n + 1 => by rw [Lib.repeatL, rep_eq l n, List.replicate_succ, List.flatten_cons]
theorem may_sign {t : Tok} (h : mayTok t = true) (h0 : ¬ t.kind = 0) : t.kind = 1 ∨ t.kind = 2 ∨ t.kind = 3 ∨ t.kind = 4 ∨ t.kind = 5 := by
  unfold mayTok at h
  rw [if_neg h0] at h
  split at h
  · omega
  · split at h
    · omega
    · cases h

set_option maxRecDepth 100000 in
set_option maxHeartbeats 4000000 in
theorem Print_ok (b o cap : Nat) (ts : List Tok) (w : World) (hc0 : chkT ts = 0) (hcap : ts.length ≤ cap) (hT : Wd w) (hA : TkAt w b o ts) :
    Calls Tryd.prog 9 #[.slice (some ⟨b, o, none⟩) ts.length cap] w fun e w' => e = .returned (.tuple #[.string (mkB (prtL ts)), .int .i64 0]) ∧ Below w.heap.size w w' := by
  obtain ⟨hM, hl64, hs64⟩ := chk_ok hc0
  have SZ : SzT ts := fun i => Nat.le_trans (size_tok ts i) (by omega)
  have CK := hide (Check_any (v := .slice (some ⟨b, o, none⟩) ts.length cap) ⟨_, cap, rfl, hcap, .inr ⟨b, o, rfl, hA⟩⟩ (by omega) SZ hT.u8)
  rw [hc0] at CK
  have hpl := prtL_len ts hM
  obtain ⟨P, hP⟩ : ∃ P, P = prtL ts := ⟨_, rfl⟩
  rw [← hP] at hpl ⊢
  have HP := hide hP
  have HM := hide hM
  have HA := hide hA
  have HT := hide hT
  obtain ⟨L, hL⟩ : ∃ L, L = ts.length := ⟨_, rfl⟩
  rw [← hL] at CK hcap hl64 hpl ⊢
  have HL := hide hL
  clear hM hA hT hL hP hc0 SZ
  go_enter Tryd.func9, Tryd.ntmps9
  go_wp2_with fail
  refine CK.out.mono ?_
  rintro e w1 ⟨rfl, hb1⟩
  have BW := hide hb1
  have N1 := hide (Bd.new w1)
  have B1 : Hid (Below w1.heap.size w1 (w1.alloc (.cells #[.pointer none, .slice none 0 0] 43))) := hide ((Below.refl _ _).alloc (Nat.le_refl _) _)
  clear hb1 CK
  go_wp2
  go_loopw [15] (fun q wr => ∃ (k : Nat), k ≤ L ∧ q = .int .i64 (k : Int) ∧ Hid (Bd wr w1.heap.size (prtL (ts.take k))) ∧ Hid (Below w1.heap.size w1 wr)) (fun q _ => L - (intOf q).toNat)
  case atStart => exact ⟨0, Nat.zero_le _, rfl, N1, B1⟩
  case round =>
    obtain ⟨k, hk, rfl, HBd, HB⟩ := hrel
    have BX := hide (BW.out.trans (HB.out.mono BW.out.size))
    by_cases hlt : k < L
    · have hlt' : (k : Int) < (L : Int) := by omega
      have hkt : k < ts.length := by rw [← HL.out]; exact hlt
      obtain ⟨c0, c1, c2⟩ := (HA.out.below BX.out) k hkt
      have hmk := HM.out _ (tokN_mem hkt)
      have ES := hide (prtL_snoc ts k hkt)
      have hpk : (prtL (ts.take k)).length + (prtT (tokN ts k)).length ≤ P.length := by
        rw [← List.length_append, ← prtL_snoc ts k hkt, HP.out]
        conv => rhs; rw [← List.take_append_drop (k + 1) ts]
        unfold prtL
        rw [List.flatMap_append, List.length_append]
        omega
      have htz : (tokN ts k).text.size ≤ 64 := Nat.le_trans (size_tok ts k) hs64
      obtain ⟨t, ht⟩ : ∃ t, t = tokN ts k := ⟨_, rfl⟩
      rw [← ht] at c0 c1 c2 hmk ES hpk htz
      clear ht hkt
      obtain ⟨W2, hW2⟩ : ∃ W2, W2 = wr.alloc (.cells #[.int .i64 t.kind, .int .i64 t.many, .string t.text] 32) := ⟨_, rfl⟩
      have BA : Hid (Below wr.heap.size wr W2) := hide (by rw [hW2]; exact (Below.refl _ _).alloc (Nat.le_refl _) _)
      have TB : Hid (Blk W2 wr.heap.size #[.int .i64 t.kind, .int .i64 t.many, .string t.text] 32) := hide (by rw [hW2]; exact Blk.newAt wr wr.heap.size rfl _ _)
      have HW2 := hide hW2.symm
      have d0 := TB.out.cell 0
      have d1 := TB.out.cell 1
      have d2 := TB.out.cell 2
      have BD2 := hide (HBd.out.below BA.out)
      have HB2 := hide (HB.out.trans (BA.out.mono HB.out.size))
      have TW2 := hide (HT.out.below (BX.out.trans (BA.out.mono BX.out.size)))
      clear hW2 HBd HB
      by_cases h0 : t.kind = 0
      · have h0' : (t.kind == 0) = true := beq_iff_eq.2 h0
        have hv := (may_zero hmk h0).2.1
        have hfl := flat_rns _ _ (Nat.le_refl _) hv
        have H1 := hide (textOf_any (rns (bys t.text)) W2 (rns_isR _ _ (Nat.le_refl _)) (by rw [hfl, bys_len]; omega) TW2.out)
        rw [hfl, mkB_bys] at H1
        have EP : Hid (prtT t = textR (rns (bys t.text))) := hide (by unfold prtT; rw [if_pos h0])
        rw [EP.out] at hpk ES
        obtain ⟨X, hX⟩ : ∃ X, X = textR (rns (bys t.text)) := ⟨_, rfl⟩
        rw [← hX] at H1 hpk ES
        clear hX EP hv hfl h0 hmk
        go_wp2_with (simp only [HW2.out])
        refine H1.out.mono ?_
        rintro e w3 ⟨rfl, hb3⟩
        have H2 := hide ((BD2.out.below hb3).put (mkB X) (by rw [size_mkB]; omega))
        have HB3 := hide (HB2.out.trans (hb3.mono HB2.out.size))
        clear hb3 H1
        go_wp2_with fail
        refine H2.out.mono ?_
        rintro e w4 ⟨rfl, hbd, hb4⟩
        rw [bys_mkB, ← ES.out] at hbd
        have BD4 := hide hbd
        have HB4 := hide (HB3.out.trans hb4)
        clear hbd hb4 H2 BD2 HB2 HB3
        go_wp2
        exact ⟨⟨k + 1, by omega, by go_num, BD4, HB4⟩, by simp [intOf]; omega⟩
      · have h0' : (t.kind == 0) = false := beq_eq_false_iff_ne.2 h0
        have hsg := may_sign hmk h0
        have hmm := may_many hmk
        have EP : Hid (prtT t = (List.replicate (max 1 t.many).toNat (sgnL t.kind)).flatten) := hide (by unfold prtT; rw [if_neg h0])
        obtain ⟨N, hN⟩ : ∃ N : Nat, max 1 t.many = (N : Int) := ⟨(max 1 t.many).toNat, by omega⟩
        have hN3 : N ≤ 3 := by omega
        rw [hN, Int.toNat_natCast] at EP
        obtain ⟨kd, nn, x⟩ := t
        simp only at c0 c1 c2 d0 d1 d2 TB HW2 h0' hsg hN EP ES hpk
        clear h0 hmk htz hmm
        obtain ⟨RP, hRP⟩ : ∃ RP, RP = prtT ⟨kd, nn, x⟩ := ⟨_, rfl⟩
        rw [← hRP] at EP ES hpk
        clear hRP
        have TW1 := hide (HT.out.below BW.out)
        have SG : Hid (∃ sg : ByteArray, w1.cell? ⟨0, kd.toNat, none⟩ = some (.string sg) ∧ bys sg = sgnL kd ∧ sg.size ≤ 3) := hide (by
          have hw := TW1.out
          rcases hsg with rfl | rfl | rfl | rfl | rfl
          · exact ⟨_, hw.s1, rfl, by decide⟩
          · exact ⟨_, hw.s2, rfl, by decide⟩
          · exact ⟨_, hw.s3, rfl, by decide⟩
          · exact ⟨_, hw.s4, rfl, by decide⟩
          · exact ⟨_, hw.s5, rfl, by decide⟩)
        obtain ⟨sg, hs0, hs2, hs3⟩ := SG.out
        have hs1 := cell_on HB2.out hs0
        have HS0 := hide hs0
        have hmul : sg.size * N ≤ 9 := Nat.mul_le_mul hs3 hN3
        have KP : Hid (∀ w', Below W2.heap.size W2 w' → (w'.cell? ⟨wr.heap.size, 0, none⟩ = some (.int .i64 kd) ∧ w'.cell? ⟨wr.heap.size, 1, none⟩ = some (.int .i64 nn)) ∧ w'.cell? ⟨0, kd.toNat, none⟩ = some (.string sg)) := hide (fun w' hb => ⟨⟨cell_on hb d0, cell_on hb d1⟩, cell_on hb hs1⟩)
        have C0 : Hid (∀ X, Hid (Below W2.heap.size W2 X) → Calls Tryd.prog 23 #[.string sg, .int .i64 (N : Int)] X fun x' w' => x' = .returned (.string (mkB RP)) ∧ Hid (Below W2.heap.size W2 w') ∧ (w'.cell? ⟨wr.heap.size, 0, none⟩ = some (.int .i64 kd) ∧ w'.cell? ⟨wr.heap.size, 1, none⟩ = some (.int .i64 nn)) ∧ w'.cell? ⟨0, kd.toNat, none⟩ = some (.string sg)) := hide (fun X hX => (Tryd.strings_Repeat sg N X (by omega) (by omega)).mono fun x' w' ⟨h1, h2⟩ => by
          have hb := hX.out.trans (h2.mono hX.out.size)
          have e : (⟨(Lib.repeatL sg.data.toList N).toArray⟩ : ByteArray) = mkB RP := by
            rw [rep_eq, EP.out]
            show mkB (List.replicate N (bys sg)).flatten = _
            rw [hs2]
          rw [e] at h1
          exact ⟨h1, hb, KP.out w' hb⟩)
        have C1 : Hid (∀ X, Hid (Below W2.heap.size W2 X) → Calls Tryd.prog 21 #[.pointer (some ⟨w1.heap.size, 0, none⟩), .string (mkB RP)] X fun x' w' => x' = .returned (.tuple #[.int .i64 (mkB RP).size, .nilIface]) ∧ Hid (Bd w' w1.heap.size (prtL (ts.take (k + 1))) ∧ Below w1.heap.size w1 w') ∧ (w'.cell? ⟨wr.heap.size, 0, none⟩ = some (.int .i64 kd) ∧ w'.cell? ⟨wr.heap.size, 1, none⟩ = some (.int .i64 nn)) ∧ w'.cell? ⟨0, kd.toNat, none⟩ = some (.string sg)) := hide (fun X hX => ((BD2.out.below hX.out).putK (mkB RP) (by rw [size_mkB]; omega)).mono fun x' w' ⟨h1, h2, h3, h4⟩ => by
          have q := h4 _ _ (TB.out.below hX.out TB.out.lt)
          rw [bys_mkB, ← ES.out] at h2
          exact ⟨h1, ⟨h2, (HB2.out.trans (hX.out.mono HB2.out.size)).trans h3⟩, ⟨q.cell 0, q.cell 1⟩, cell_on ((HB2.out.trans (hX.out.mono HB2.out.size)).trans h3) HS0.out⟩)
        have b0 : Hid (Below W2.heap.size W2 W2.drew) := hide (Below.refl _ _).drew
        have hk0 : (0 : Int) ≤ kd := by omega
        have hk6 : kd < 6 := by omega
        clear SG hs0 hs2 hs3 hmul KP EP ES hpk hN3 TB TW1 TW2 BD2 HB2 HS0 hsg BX
        go_wp2_with (simp only [HW2.out])
        have mk0 : True := trivial
        go_region_held3 (fun w' => (w'.cell? ⟨wr.heap.size, 0, none⟩ = some (.int .i64 kd) ∧ w'.cell? ⟨wr.heap.size, 1, none⟩ = some (.int .i64 nn)) ∧ w'.cell? ⟨0, kd.toNat, none⟩ = some (.string sg)) (go_keep) (first
          | (clear mk0; go_at_call 23; refine (C0.out _ b0).mono ?_; rintro x' z1 ⟨rfl, P1, ⟨t0, t1⟩, t2⟩; have mk1 : True := trivial)
          | (clear mk1; go_at_call 21; refine (C1.out _ P1).mono ?_; rintro x' z2 ⟨rfl, P2, ⟨t0, t1⟩, t2⟩; have mk2 : True := trivial))
        have BD4 := hide P2.out.1
        have HB4 := hide P2.out.2
        clear C0 C1 b0 P1 P2 mk2 t0 t1 t2 d0 d1 d2 hs1 c0 c1 c2
        go_wp2
        exact ⟨⟨k + 1, by omega, by go_num, BD4, HB4⟩, by simp [intOf]; omega⟩
    · obtain rfl : k = L := by omega
      have hlt' : ¬ (k : Int) < (k : Int) := by omega
      have e1 : ts.take k = ts := List.take_of_length_le (by rw [← HL.out]; exact Nat.le_refl _)
      have H1 := hide (Bd.str HBd.out)
      rw [e1, ← HP.out] at H1
      clear e1 hlt HBd
      go_wp2_with fail
      refine H1.out.mono ?_
      rintro e w2 ⟨rfl, hb⟩
      have HX := hide (BW.out.trans ((HB.out.trans hb).mono BW.out.size))
      clear hb H1
      go_wp2
      refine bodyPost_ret (results_tmp2 rfl _ _ _) rfl ?_
      exact ⟨rfl, HX.out⟩

set_option maxRecDepth 100000 in
set_option maxHeartbeats 1000000 in
theorem Print_bad (v : Value) (w : World) (C : Nat) (hC : C = 131 ∨ C = 132) (CK : Calls Tryd.prog 13 #[v] w fun e w' => e = .returned (.int .i64 (C : Int)) ∧ Below w.heap.size w w') :
    Calls Tryd.prog 9 #[v] w fun e w' => e = .returned (.tuple #[.string ⟨#[]⟩, .int .i64 (C : Int)]) ∧ Below w.heap.size w w' := by
  have HC := hide CK
  clear CK
  rcases hC with rfl | rfl
  all_goals
    go_enter Tryd.func9, Tryd.ntmps9
    go_wp2_with fail
    refine HC.out.mono ?_
    rintro e w1 ⟨rfl, hb⟩
    go_wp2
    refine bodyPost_ret (results_tmp2 rfl _ _ _) rfl ?_
    exact ⟨rfl, hb⟩

set_option maxRecDepth 100000 in
set_option maxHeartbeats 1000000 in
theorem Print_nil (ao : Option Addr) (cap : Nat) (w : World) :
    Calls Tryd.prog 9 #[.slice ao 0 cap] w fun e w' => e = .returned (.tuple #[.string ⟨#[]⟩, .int .i64 0]) ∧ Below w.heap.size w w' := by
  have HC := hide (Check_nil ao cap w)
  go_enter Tryd.func9, Tryd.ntmps9
  go_wp2_with fail
  refine HC.out.mono ?_
  rintro e w1 ⟨rfl, hb⟩
  have BW := hide hb
  have N1 := hide (Bd.new w1)
  have B1 : Hid (Below w1.heap.size w1 (w1.alloc (.cells #[.pointer none, .slice none 0 0] 43))) := hide ((Below.refl _ _).alloc (Nat.le_refl _) _)
  clear hb HC
  go_wp2
  go_loopw [15] (fun q wr => q = .int .i64 0 ∧ Hid (Bd wr w1.heap.size []) ∧ Hid (Below w1.heap.size w1 wr)) (fun q _ => 0)
  case atStart => exact ⟨rfl, N1, B1⟩
  case round =>
    obtain ⟨rfl, HBd, HB⟩ := hrel
    have H1 := hide (Bd.str HBd.out)
    go_wp2_with fail
    refine H1.out.mono ?_
    rintro e w2 ⟨rfl, hb⟩
    have HX := hide (BW.out.trans ((HB.out.trans hb).mono BW.out.size))
    clear hb H1
    go_wp2
    refine bodyPost_ret (results_tmp2 rfl _ _ _) rfl ?_
    exact ⟨rfl, HX.out⟩

theorem Print_any {w : World} {v : Value} {ts : List Tok} (h : TSl w v ts) (hl : ts.length ≤ 140737488355328) (hz : SzT ts) (hT : Wd w) :
    Calls Tryd.prog 9 #[v] w fun e w' => e = .returned (.tuple #[.string (mkB (printR ts).2), .int .i64 ((printR ts).1 : Int)]) ∧ Below w.heap.size w w' := by
  unfold printR
  by_cases hc : chkT ts = 0
  · rw [if_pos hc]
    obtain ⟨ao, cap, rfl, h2, h3⟩ := h
    rcases h3 with rfl | ⟨b, o, rfl, h3⟩
    · exact Print_nil ao cap w
    · exact Print_ok b o cap ts w hc h2 hT h3
  · rw [if_neg hc]
    have hci := chkT_is ts
    exact Print_bad v w (chkT ts) (by omega) (Check_any h hl hz hT.u8)

end Go.Proofs.YtobcbffakldfcaaDoor

namespace Go.Proofs.YtobcbffakldfcaaDoor
open Go.RowKit

def fxA : List Tok := [⟨0, 0, mkB [97, 39, 45]⟩, ⟨1, 0, ⟨#[]⟩⟩]
def fxB : List Tok := [⟨0, 0, mkB [48, 39]⟩, ⟨5, 2, ⟨#[]⟩⟩]
set_option maxRecDepth 100000 in
theorem fx_one : parseR [39, 97, 39, 39, 45, 39, 45] = (0, fxA) := by kernel_rfl
set_option maxRecDepth 100000 in
theorem fx_two : printR fxB = (0, [39, 48, 39, 39, 39, 194, 164, 194, 164]) := by kernel_rfl
set_option maxRecDepth 100000 in
theorem fx_three : parseR [39, 97] = (130, []) := by kernel_rfl

theorem TSl.lit2 (w : World) (a b : Tok) : TSl (w.alloc (.cells (cellsT [a, b]).toArray 32)) (.slice (some ⟨w.heap.size, 0, none⟩) 2 2) [a, b] :=
  TSl.of_blk (ts := [a, b]) (Blk.newAt w w.heap.size rfl _ _) 2 (Nat.le_refl _)

set_option maxRecDepth 100000 in
set_option maxHeartbeats 4000000 in
theorem fixed13_any (w : World) (hT : Wd w) : Calls Tryd.prog 18 #[] w fun e w' => e = .returned (.bool true) ∧ Below w.heap.size w w' := by
  have H1 := hide (Parse_any ⟨#[39, 97, 39, 39, 45, 39, 45]⟩ w (by decide) hT)
  rw [show bys ⟨#[39, 97, 39, 39, 45, 39, 45]⟩ = [39, 97, 39, 39, 45, 39, 45] from rfl, fx_one] at H1
  have HT := hide hT
  clear hT
  go_enter Tryd.func18, Tryd.ntmps18
  go_wp2_with fail
  refine H1.out.mono ?_
  rintro e w1 ⟨v, rfl, hp, hb1⟩
  have hp' : w1.ownsRow w.heap.size 32 3 v 2 (cellsT fxA) := hp
  obtain ⟨g, cap, rfl, hg0, hg1⟩ := own_some hp' (by decide)
  have P1 := hide hp'
  have B1 := hide hb1
  clear H1 hp hp' hb1
  have B2 : Hid (Below w1.heap.size w1 (w1.alloc (.cells (cellsT fxB).toArray 32))) := hide ((Below.refl _ _).alloc (Nat.le_refl _) _)
  have SZ : SzT fxB := fun i => Nat.le_trans (size_tok fxB i) (by decide)
  have H2 := hide (Print_any (TSl.lit2 w1 ⟨0, 0, mkB [48, 39]⟩ ⟨5, 2, ⟨#[]⟩⟩) (by decide) SZ (HT.out.below (B1.out.trans (B2.out.mono B1.out.size))))
  rw [show printR [⟨0, 0, mkB [48, 39]⟩, ⟨5, 2, ⟨#[]⟩⟩] = (0, [39, 48, 39, 39, 39, 194, 164, 194, 164]) from fx_two] at H2
  rw [show (cellsT [⟨0, 0, mkB [48, 39]⟩, ⟨5, 2, ⟨#[]⟩⟩]).toArray = #[.int .i64 0, .int .i64 0, .string ⟨#[48, 39]⟩, .int .i64 5, .int .i64 2, .string ⟨#[]⟩] from rfl] at H2
  rw [show (cellsT fxB).toArray = #[.int .i64 0, .int .i64 0, .string ⟨#[48, 39]⟩, .int .i64 5, .int .i64 2, .string ⟨#[]⟩] from rfl] at B2
  rw [show mkB ((0 : Nat), [39, 48, 39, 39, 39, 194, 164, 194, 164]).2 = ⟨#[39, 48, 39, 39, 39, 194, 164, 194, 164]⟩ from rfl] at H2
  clear SZ
  go_wp2_with fail
  refine H2.out.mono ?_
  rintro e w2 ⟨rfl, hb2⟩
  have B3 := hide (B2.out.trans (hb2.mono B2.out.size))
  have BW2 := hide (B1.out.trans (B3.out.mono B1.out.size))
  clear hb2 H2 B2
  have H3 := hide (Parse_any ⟨#[39, 97]⟩ w2 (by decide) (HT.out.below BW2.out))
  rw [show bys ⟨#[39, 97]⟩ = [39, 97] from rfl, fx_three] at H3
  go_wp2_with fail
  refine H3.out.mono ?_
  rintro e w3 ⟨v3, rfl, hp3, hb3⟩
  have P3 := hide (own_below P1.out (B3.out.trans (hb3.mono B3.out.size)))
  have BW3 := hide (BW2.out.trans (hb3.mono BW2.out.size))
  clear hp3 hb3 H3 P1 B1 B3 BW2
  have a0 : w3.cell? ⟨g, 0, none⟩ = some (.int .i64 0) := P3.out.cellAt 0 (by decide)
  have a1 : w3.cell? ⟨g, 1, none⟩ = some (.int .i64 0) := P3.out.cellAt 1 (by decide)
  have a2 : w3.cell? ⟨g, 2, none⟩ = some (.string ⟨#[97, 39, 45]⟩) := P3.out.cellAt 2 (by decide)
  have a3 : w3.cell? ⟨g, 3, none⟩ = some (.int .i64 1) := P3.out.cellAt 3 (by decide)
  have a4 : w3.cell? ⟨g, 4, none⟩ = some (.int .i64 0) := P3.out.cellAt 4 (by decide)
  have a5 : w3.cell? ⟨g, 5, none⟩ = some (.string ⟨#[]⟩) := P3.out.cellAt 5 (by decide)
  have HH : Hid (∀ X, Below w3.heap.size w3 X → Calls Tryd.prog 16 #[.slice (some ⟨g, 0, none⟩) 2 cap, .int .i64 1] X fun e w' => e = .returned (.bool true) ∧ Below X.heap.size X w') := hide (fun X hX => Has_any (ts := fxA) 1 (TSl.of_own (own_below P3.out hX)) (by decide))
  have HN : Hid (∀ X, Calls Tryd.prog 13 #[.slice none 0 0] X fun e w' => e = .returned (.int .i64 0) ∧ Below X.heap.size X w') := hide (fun X => Check_nil none 0 X)
  have HU : Hid (∀ X, Below w3.heap.size w3 X → Calls Tryd.prog 11 #[.slice (some ⟨g, 0, none⟩) 2 cap, .int .i64 1, .int .i64 2] X fun e w' => ∃ g', e = .returned (.slice (some ⟨g', 0, none⟩) 2 2) ∧ Below X.heap.size X w') := hide (fun X hX => (Turn_any (ts := fxA) 1 2 (TSl.of_own (own_below P3.out hX)) (by decide)).mono fun e w' ⟨g', h1, _, _, h2⟩ => ⟨g', h1, h2⟩)
  clear P3 HT
  go_wp2_with fail
  refine (HH.out w3 (Below.refl _ _)).mono ?_
  rintro e w4 ⟨rfl, hb4⟩
  have B4 := hide hb4
  clear hb4 HH
  go_wp2_with fail
  refine (HN.out w4).mono ?_
  rintro e w5 ⟨rfl, hb5⟩
  have B5 := hide (B4.out.trans (hb5.mono B4.out.size))
  clear hb5 HN B4
  have HU2 := hide (HU.out w5 B5.out)
  clear HU
  go_wp2_with fail
  refine HU2.out.mono ?_
  rintro e w6 ⟨g', rfl, hb6⟩
  have B6 := hide (BW3.out.trans ((B5.out.trans (hb6.mono B5.out.size)).mono BW3.out.size))
  clear hb6 HU2
  go_wp2
  go_ret
  exact ⟨rfl, B6.out⟩

end Go.Proofs.YtobcbffakldfcaaDoor

namespace Go.Proofs.YtobcbffakldfcaaDoor
open Go.RowKit

theorem tl_inj {x y : ByteArray} (h : x.toList = y.toList) : x = y := by
  rw [sl, sl] at h
  rw [← mkB_bys x, ← mkB_bys y, h]
theorem tok_eql (a b : Tok) (W : World) : (binOp .eql 32 (tokV a) (tokV b)).run Tryd.prog W = .ok (.bool (decide (a = b))) W := by
  obtain ⟨k, n, x⟩ := a
  obtain ⟨j, m, y⟩ := b
  unfold tokV
  by_cases h1 : k = j
  · by_cases h2 : n = m
    · by_cases h3 : x = y
      · subst h1; subst h2; subst h3
        simp [go_sem, Tryd.underlying32, Tryd.underlying3, Tryd.underlying9, Program.fieldsOf]
      · have h3' : ¬ x.toList = y.toList := fun e => h3 (tl_inj e)
        subst h1; subst h2
        simp [go_sem, Tryd.underlying32, Tryd.underlying3, Tryd.underlying9, Program.fieldsOf, h3, h3']
    · subst h1
      simp [go_sem, Tryd.underlying32, Tryd.underlying3, Tryd.underlying9, Program.fieldsOf, h2]
  · simp [go_sem, Tryd.underlying32, Tryd.underlying3, Tryd.underlying9, Program.fieldsOf, h1]
theorem tok_neq (a b : Tok) (W : World) : (binOp .neq 32 (tokV a) (tokV b)).run Tryd.prog W = .ok (.bool (!decide (a = b))) W := by
  have h := tok_eql a b W
  unfold tokV at *
  rw [run_eql_struct] at h
  rw [run_neq_struct]
  generalize (Op.equalIn 10000 32 (Value.agg #[Value.int IntKind.i64 a.kind, Value.int IntKind.i64 a.many, Value.string a.text]) (Value.agg #[Value.int IntKind.i64 b.kind, Value.int IntKind.i64 b.many, Value.string b.text])).run Tryd.prog W = R at *
  cases R with
  | ok v w' =>
    simp only [Result.andThen, Result.ok.injEq, Value.bool.injEq] at h ⊢
    exact ⟨by rw [h.1], h.2⟩
  | _ => simp [Result.andThen] at h

def sameT : List Tok → List Tok → Bool
  | [], [] => true
  | a :: l, b :: m => decide (a = b) && sameT l m
  | _, _ => false
theorem sameT_eq : ∀ a b : List Tok, sameT a b = decide (a = b)
  | [], [] => rfl
  | [], _ :: _ => by simp [sameT]
  | _ :: _, [] => by simp [sameT]
  | a :: l, b :: m => by
    rw [sameT, sameT_eq l m]
    by_cases h : a = b <;> by_cases k : l = m <;> simp [h, k]

set_option maxRecDepth 100000 in
set_option maxHeartbeats 2000000 in
theorem Same_at (b o cap b' o' cap' : Nat) (ts us : List Tok) (w : World) (hl : ts.length ≤ 140737488355328) (hc : ts.length ≤ cap) (hc' : us.length ≤ cap') (he : ts.length = us.length) (hA : TkAt w b o ts) (hB : TkAt w b' o' us) :
    Calls Tryd.prog 15 #[.slice (some ⟨b, o, none⟩) ts.length cap, .slice (some ⟨b', o', none⟩) us.length cap'] w fun e w' => e = .returned (.bool (decide (ts = us))) ∧ Below w.heap.size w w' := by
  rw [← sameT_eq]
  have HA := hide hA
  have HB := hide hB
  have HE := hide he
  rw [← he] at hc' ⊢
  obtain ⟨L, hL⟩ : ∃ L, L = ts.length := ⟨_, rfl⟩
  rw [← hL] at hl hc hc' ⊢
  have HL := hide hL
  obtain ⟨R, hR⟩ : ∃ R, R = sameT ts us := ⟨_, rfl⟩
  rw [← hR]
  have HR := hide hR
  clear hR hL he hA hB
  go_enter Tryd.func15, Tryd.ntmps15
  go_wp2
  go_loopw [5] (fun q wr => ∃ k : Nat, k ≤ L ∧ q = .int .i64 (k : Int) ∧ Hid (sameT (ts.drop k) (us.drop k) = R) ∧ Hid (Below w.heap.size w wr)) (fun q _ => L - (intOf q).toNat)
  case atStart => exact ⟨0, Nat.zero_le _, rfl, hide (by rw [HR.out, List.drop_zero, List.drop_zero]), Below.refl _ _⟩
  case round =>
    obtain ⟨k, hk, rfl, HF, HW⟩ := hrel
    by_cases hlt : k < L
    · have hlt' : (k : Int) < (L : Int) := by omega
      have hkt : k < ts.length := by rw [← HL.out]; exact hlt
      have hku : k < us.length := by rw [← HE.out]; exact hkt
      obtain ⟨c0, c1, c2⟩ := (HA.out.below HW.out) k hkt
      obtain ⟨d0, d1, d2⟩ := (HB.out.below HW.out) k hku
      have e1 := HF.out
      rw [tokN_drop hkt, tokN_drop hku, sameT] at e1
      have E1 := hide e1
      have NQ : Hid (∀ W, (binOp .neq 32 (tokV (tokN ts k)) (tokV (tokN us k))).run Tryd.prog W = .ok (.bool (!decide (tokN ts k = tokN us k))) W) := hide (fun W => tok_neq _ _ W)
      generalize decide (tokN ts k = tokN us k) = Q at *
      generalize tokN ts k = t at *
      generalize tokN us k = u at *
      unfold tokV at NQ
      have nq := NQ.out
      clear HF e1 hkt hku NQ
      go_wp2_with fail
      go_region
      have HN := hide HW.out.drew
      cases Q
      · have E2 : Hid (R = false) := hide (by rw [← E1.out]; rfl)
        clear E1
        go_wp2
        go_ret
        exact ⟨by first | (rw [E2.out]; done) | (rw [E2.out]; rfl), HN.out⟩
      · have E2 : Hid (sameT (ts.drop (k + 1)) (us.drop (k + 1)) = R) := hide (by rw [← E1.out]; rfl)
        clear E1
        go_wp2
        exact ⟨⟨k + 1, by omega, by go_num, E2, HN⟩, by simp [intOf]; omega⟩
    · obtain rfl : k = L := by omega
      have hlt' : ¬ (k : Int) < (k : Int) := by omega
      have ER : Hid (R = true) := hide (by rw [← HF.out, List.drop_eq_nil_of_le (by rw [← HL.out]; exact Nat.le_refl _), List.drop_eq_nil_of_le (by rw [← HE.out, ← HL.out]; exact Nat.le_refl _)]; rfl)
      clear HF hlt
      go_wp2
      go_ret
      exact ⟨by first | (rw [ER.out]; done) | (rw [ER.out]; rfl), HW.out⟩

set_option maxHeartbeats 1000000 in
theorem Same_len (ao ao' : Option Addr) (n m cap cap' : Nat) (w : World) (hn : n ≠ m) :
    Calls Tryd.prog 15 #[.slice ao n cap, .slice ao' m cap'] w fun e w' => e = .returned (.bool false) ∧ Below w.heap.size w w' := by
  have hn' : ((n : Int) == (m : Int)) = false := beq_eq_false_iff_ne.2 (by omega)
  have hn2 : ((n : Int) != (m : Int)) = true := by rw [bne, hn']; rfl
  have hn3 : ¬ (n : Int) = (m : Int) := by omega
  go_enter Tryd.func15, Tryd.ntmps15
  go_wp2
  go_ret
  exact ⟨rfl, Below.refl _ _⟩
set_option maxHeartbeats 1000000 in
theorem Same_nil (ao ao' : Option Addr) (cap cap' : Nat) (w : World) :
    Calls Tryd.prog 15 #[.slice ao 0 cap, .slice ao' 0 cap'] w fun e w' => e = .returned (.bool true) ∧ Below w.heap.size w w' := by
  go_enter Tryd.func15, Tryd.ntmps15
  go_wp2
  go_loopw [5] (fun q wr => q = .int .i64 0 ∧ wr = w) (fun q _ => 0)
  case atStart => exact ⟨rfl, rfl⟩
  case round =>
    obtain ⟨rfl, rfl⟩ := hrel
    go_wp2
    go_ret
    exact ⟨rfl, Below.refl _ _⟩

theorem Same_any {w : World} {v v' : Value} {ts us : List Tok} (h : TSl w v ts) (h' : TSl w v' us) (hl : ts.length ≤ 140737488355328) :
    Calls Tryd.prog 15 #[v, v'] w fun e w' => e = .returned (.bool (decide (ts = us))) ∧ Below w.heap.size w w' := by
  obtain ⟨ao, cap, rfl, h2, h3⟩ := h
  obtain ⟨ao', cap', rfl, h2', h3'⟩ := h'
  by_cases hn : ts.length = us.length
  · rcases h3 with rfl | ⟨b, o, rfl, h3⟩
    · have hu : us = [] := List.eq_nil_of_length_eq_zero hn.symm
      subst hu
      exact Same_nil ao ao' cap cap' w
    · rcases h3' with rfl | ⟨b', o', rfl, h3'⟩
      · have hu : ts = [] := List.eq_nil_of_length_eq_zero hn
        subst hu
        exact Same_nil _ ao' cap cap' w
      · exact Same_at b o cap b' o' cap' ts us w hl h2 h2' hn h3 h3'
  · have : decide (ts = us) = false := decide_eq_false (fun e => hn (by rw [e]))
    rw [this]
    exact Same_len ao ao' _ _ cap cap' w hn

end Go.Proofs.YtobcbffakldfcaaDoor

namespace Go.Proofs.YtobcbffakldfcaaDoor
open Go.RowKit

theorem laid_first : (Rows.laid_unicode_utf8_first : DataW Unit) = Lib.firstData := by kernel_rfl
theorem laid_accept : (Rows.laid_unicode_utf8_acceptRanges : DataW Unit) = Lib.acceptData := by kernel_rfl
theorem cellsAR : Tryd.prog.cellsOf 110 = 2 := by kernel_rfl
theorem cellsU8 : Tryd.prog.cellsOf 5 = 1 := by kernel_rfl
theorem cellsFT : Tryd.prog.cellsOf 108 = 256 := by kernel_rfl

theorem first_of {W : World} (h : Lib.VarReads Tryd.prog W "unicode/utf8.first" Lib.firstData) : ∀ c, c < 256 → W.cell? ⟨2, c, none⟩ = some (.int .u8 (Lib.firstT c : Int)) := by
  intro c hc
  obtain ⟨g, t, cs, fuel, p, hg, hty, hvar, hd⟩ := h
  have eg : g = 2 := Option.some.inj (hg.symm.trans (by kernel_rfl))
  subst eg
  have et : t = 108 := Option.some.inj (hty.symm.trans (by kernel_rfl))
  subst et
  have hcs := Lib.cells_of_tab Tryd.underlying108 Tryd.underlying5 cellsU8 cellsFT hd
  rw [World.var?_cell hg hvar c, ← Array.getElem?_toList, hcs]
  simp [Lib.firstTab, hc]

theorem accept_of {W : World} (h : Lib.VarReads Tryd.prog W "unicode/utf8.acceptRanges" Lib.acceptData) : ∀ i, i < 16 → W.cell? ⟨3, 2 * i, none⟩ = some (.int .u8 (Lib.accLo i : Int)) ∧ W.cell? ⟨3, 2 * i + 1, none⟩ = some (.int .u8 (Lib.accHi i : Int)) := by
  intro i hi
  obtain ⟨g, t, cs, fuel, p, hg, hty, hvar, hd⟩ := h
  have eg : g = 3 := Option.some.inj (hg.symm.trans (by kernel_rfl))
  subst eg
  have et : t = 111 := Option.some.inj (hty.symm.trans (by kernel_rfl))
  subst et
  obtain ⟨fu, d, q, hdi, he⟩ := Lib.array_elem Tryd.underlying111 hd i hi
  rw [cellsAR] at he
  have hdv : d = .agg ([(Lib.accLo i : Int), (Lib.accHi i : Int)].map fun z => .lit (.int .u8 z)) := by
    rw [List.getElem?_map, List.getElem?_range hi] at hdi
    exact (Option.some.inj hdi).symm
  subst hdv
  have fields : ∀ (j : Nat) (f : Field), (Tryd.prog.fieldsOf 110)[j]? = some f → Tryd.prog.underlying f.type = some (.int .u8) ∧ f.offset = j ∧ Tryd.prog.cellsOf f.type = 1 := by
    intro j f hj
    have e2 : Tryd.prog.fieldsOf 110 = #[(Tryd.prog.fieldsOf 110)[0]!, (Tryd.prog.fieldsOf 110)[1]!] := by kernel_rfl
    rw [e2] at hj
    match j, hj with
    | 0, hj => simp at hj; subst hj; exact ⟨by kernel_rfl, by kernel_rfl, by kernel_rfl⟩
    | 1, hj => simp at hj; subst hj; exact ⟨by kernel_rfl, by kernel_rfl, by kernel_rfl⟩
    | j + 2, hj => simp at hj
  have hcs := Lib.ints_of_struct (fs := Tryd.prog.fieldsOf 110) (by kernel_rfl) fields (by kernel_rfl) he
  have q0 := congrArg (fun l => l[0]?) hcs
  have q1 := congrArg (fun l => l[1]?) hcs
  simp only [List.getElem?_take, List.getElem?_drop] at q0 q1
  refine ⟨?_, ?_⟩
  · rw [World.var?_cell hg hvar (2 * i), ← Array.getElem?_toList, Nat.mul_comm]
    simpa using q0
  · rw [World.var?_cell hg hvar (2 * i + 1), ← Array.getElem?_toList, Nat.mul_comm]
    simpa using q1

theorem cellsMv : Tryd.prog.cellsOf 80 = 2 := by kernel_rfl
theorem cellsStr : Tryd.prog.cellsOf 9 = 1 := by kernel_rfl

theorem signs_of {W : World} (h : Lib.VarReads Tryd.prog W "quipu/affix.signs" Rows.laid_quipu_affix_signs) (i : Nat) (hi : i < 6) (l : List UInt8) (hl : (Rows.laid_quipu_affix_signs : DataW Unit) = .agg (([[], [45], [43], [37], [226, 128, 176], [194, 164]] : List (List UInt8)).map fun x => .lit (.string x))) (he : ([[], [45], [43], [37], [226, 128, 176], [194, 164]] : List (List UInt8))[i]? = some l) : W.cell? ⟨0, i, none⟩ = some (.string ⟨l.toArray⟩) := by
  obtain ⟨g, t, cs, fuel, p, hg, hty, hvar, hd⟩ := h
  have eg : g = 0 := Option.some.inj (hg.symm.trans (by kernel_rfl))
  subst eg
  have et : t = 50 := Option.some.inj (hty.symm.trans (by kernel_rfl))
  subst et
  rw [hl] at hd
  obtain ⟨fu, d, q, hdi, hel⟩ := Lib.array_elem Tryd.underlying50 hd i hi
  rw [cellsStr] at hel
  obtain ⟨z, e0, f0, _⟩ := DataW.trod_string Tryd.underlying9 hel
  rw [List.getElem?_map, he] at hdi
  have e1 : (DataW.lit (.string l) : DataW Unit) = d := Option.some.inj hdi
  have e2 : z.data.toList = l := by
    have e3 := e1.trans (congrArg Prod.fst f0)
    simp only [DataW.lit.injEq, Lit.string.injEq] at e3
    exact e3.symm
  have q0 := congrArg (fun l => l[0]?) e0
  simp only [List.getElem?_take, List.getElem?_drop] at q0
  rw [World.var?_cell hg hvar i, ← Array.getElem?_toList]
  have ez : z = ⟨l.toArray⟩ := by rw [← e2]
  rw [← ez]
  simpa using q0

theorem moves_of {W : World} (h : Lib.VarReads Tryd.prog W "quipu/affix.moves" Rows.laid_quipu_affix_moves) (i : Nat) (hi : i < 4) (a b : Int) (hl : (Rows.laid_quipu_affix_moves : DataW Unit) = .agg (([(1, 0), (0, 2), (3, 2), (2, 0)] : List (Int × Int)).map fun x => .agg ([x.1, x.2].map fun z => .lit (.int .i64 z)))) (he : ([(1, 0), (0, 2), (3, 2), (2, 0)] : List (Int × Int))[i]? = some (a, b)) : W.cell? ⟨1, 2 * i, none⟩ = some (.int .i64 a) ∧ W.cell? ⟨1, 2 * i + 1, none⟩ = some (.int .i64 b) := by
  obtain ⟨g, t, cs, fuel, p, hg, hty, hvar, hd⟩ := h
  have eg : g = 1 := Option.some.inj (hg.symm.trans (by kernel_rfl))
  subst eg
  have et : t = 81 := Option.some.inj (hty.symm.trans (by kernel_rfl))
  subst et
  rw [hl] at hd
  obtain ⟨fu, d, q, hdi, hel⟩ := Lib.array_elem Tryd.underlying81 hd i hi
  rw [cellsMv] at hel
  rw [List.getElem?_map, he] at hdi
  have hdv : d = .agg ([a, b].map fun z => .lit (.int .i64 z)) := (Option.some.inj hdi).symm
  subst hdv
  have fields : ∀ (j : Nat) (f : Field), (Tryd.prog.fieldsOf 80)[j]? = some f → Tryd.prog.underlying f.type = some (.int .i64) ∧ f.offset = j ∧ Tryd.prog.cellsOf f.type = 1 := by
    intro j f hj
    have e2 : Tryd.prog.fieldsOf 80 = #[(Tryd.prog.fieldsOf 80)[0]!, (Tryd.prog.fieldsOf 80)[1]!] := by kernel_rfl
    rw [e2] at hj
    match j, hj with
    | 0, hj => simp at hj; subst hj; exact ⟨by kernel_rfl, by kernel_rfl, by kernel_rfl⟩
    | 1, hj => simp at hj; subst hj; exact ⟨by kernel_rfl, by kernel_rfl, by kernel_rfl⟩
    | j + 2, hj => simp at hj
  have hcs := Lib.ints_of_struct (fs := Tryd.prog.fieldsOf 80) (by kernel_rfl) fields (by kernel_rfl) hel
  have q0 := congrArg (fun l => l[0]?) hcs
  have q1 := congrArg (fun l => l[1]?) hcs
  simp only [List.getElem?_take, List.getElem?_drop] at q0 q1
  refine ⟨?_, ?_⟩
  · rw [World.var?_cell hg hvar (2 * i), ← Array.getElem?_toList, Nat.mul_comm]
    simpa using q0
  · rw [World.var?_cell hg hvar (2 * i + 1), ← Array.getElem?_toList, Nat.mul_comm]
    simpa using q1

theorem table {W : World} (h : laidMetH Tryd.prog [("unicode/utf8.acceptRanges", Rows.laid_unicode_utf8_acceptRanges), ("quipu/affix.signs", Rows.laid_quipu_affix_signs), ("quipu/affix.moves", Rows.laid_quipu_affix_moves), ("unicode/utf8.first", Rows.laid_unicode_utf8_first)] W) (hs : W.ShapedOpen Tryd.prog) : Wd W := by
  have h' : laidMet Tryd.prog [("unicode/utf8.acceptRanges", Rows.laid_unicode_utf8_acceptRanges), ("quipu/affix.signs", Rows.laid_quipu_affix_signs), ("quipu/affix.moves", Rows.laid_quipu_affix_moves), ("unicode/utf8.first", Rows.laid_unicode_utf8_first)] W := h
  have h3 := Lib.laidMet.reads h' (n := "unicode/utf8.first") (d := Rows.laid_unicode_utf8_first) (by simp)
  have h4 := Lib.laidMet.reads h' (n := "unicode/utf8.acceptRanges") (d := Rows.laid_unicode_utf8_acceptRanges) (by simp)
  have h5 := Lib.laidMet.reads h' (n := "quipu/affix.signs") (d := Rows.laid_quipu_affix_signs) (by simp)
  have h6 := Lib.laidMet.reads h' (n := "quipu/affix.moves") (d := Rows.laid_quipu_affix_moves) (by simp)
  rw [laid_first] at h3
  rw [laid_accept] at h4
  have m0 := moves_of h6 0 (by decide) 1 0 rfl rfl
  have m1 := moves_of h6 1 (by decide) 0 2 rfl rfl
  have m2 := moves_of h6 2 (by decide) 3 2 rfl rfl
  have m3 := moves_of h6 3 (by decide) 2 0 rfl rfl
  exact ⟨⟨first_of h3, accept_of h4⟩, signs_of h5 0 (by decide) _ rfl rfl, signs_of h5 1 (by decide) _ rfl rfl, signs_of h5 2 (by decide) _ rfl rfl, signs_of h5 3 (by decide) _ rfl rfl, signs_of h5 4 (by decide) _ rfl rfl, signs_of h5 5 (by decide) _ rfl rfl, m0.1, m0.2, m1.1, m1.2, m2.1, m2.2, m3.1, m3.2,
    Go.Proofs.cell_of_shapedOpen_int (t := 3) (zero := #[.int .i64 0]) (k := .i64) hs (of_decide_eq_true (by kernel_rfl)) (by kernel_rfl) rfl (by kernel_rfl) (by kernel_rfl) Tryd.underlying3⟩

def tabVals : DataW Unit → Array Value
  | .agg l => (l.flatMap fun
      | .lit (.int k z) => [Value.int k z]
      | .lit (.string l) => [Value.string ⟨l.toArray⟩]
      | .agg l2 => l2.map fun
        | .lit (.int k z) => Value.int k z
        | _ => .int .u8 0
      | _ => []).toArray
  | _ => #[]

def putVals (d : DataW Unit) : Obj → Obj
  | .cells _ t frozen => .cells (tabVals d) t frozen
  | o => o

noncomputable def laidWorld (os : Os) : World :=
  { World.holding Tryd.prog os ⟨#[], #[], []⟩ with
    heap := ((((World.holding Tryd.prog os ⟨#[], #[], []⟩).heap.modify 3 (putVals Rows.laid_unicode_utf8_acceptRanges)).modify 2 (putVals Rows.laid_unicode_utf8_first)).modify 0 (putVals Rows.laid_quipu_affix_signs)).modify 1 (putVals Rows.laid_quipu_affix_moves) }

end Go.Proofs.YtobcbffakldfcaaDoor
