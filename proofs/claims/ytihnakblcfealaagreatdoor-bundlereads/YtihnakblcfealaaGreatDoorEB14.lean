/-
  What quipuref12's with answers: a rising list, with one text more, if it isn't there.
  What quipuref12's May and entry answer.
  What quipuref12's table answers: the first error of a table behind others.
  What quipuref12's Pool answers: all texts of a bundle, rising, each once.
  What quipuref12's Check answers.
-/
import Derived.Test.YtihnakblcfealaaGreatDoorEB6
import Derived.Test.YtihnakblcfealaaGreatDoorEB12
import Derived.Deep.AppendLies
import Derived.Test.YtihnakblcfealaaGreatDoorEB2
import Derived.Test.YtihnakblcfealaaGreatDoorEB9
import Derived.Test.YtihnakblcfealaaGreatDoorEB3
namespace Go.Proofs.YtihnakblcfealaaGreatDoor
open Go.RowKit

def WithA (B : Nat) (ps : List (List UInt8)) (s : List UInt8) (v : Value) (w : World) (e : Ending) (w' : World) : Prop :=
  ∃ v' qs, e = .returned v' ∧ RowS w' B v' qs ∧ Rise qs ∧ (∀ x, x ∈ qs ↔ x ∈ ps ∨ x = s) ∧ qs.length ≤ ps.length + 1 ∧ v' ≠ .slice none 0 0 ∧ w.grownBy w' v.ownBlock

theorem take_step (ps : List (List UInt8)) (c : List UInt8) (i : Nat) (hi : i < ps.length) :
    (ps.take (i + 1) ++ c :: ps.drop (i + 1)).set (i + 1) (atP ps i) = ps.take i ++ atP ps i :: ps.drop i := by
  have e1 : ps.take (i + 1) = ps.take i ++ [atP ps i] := by rw [List.take_add_one, atP_get hi]; rfl
  have e2 : ps.drop i = atP ps i :: ps.drop (i + 1) := by
    rw [List.drop_eq_getElem_cons hi]
    unfold atP
    rw [List.getElem?_eq_getElem hi]
    rfl
  rw [e2, List.set_append_right _ _ (by rw [List.length_take]; omega), e1]
  have : i + 1 - (ps.take i ++ [atP ps i]).length = 0 := by
    rw [List.length_append, List.length_take]
    simp
    omega
  rw [this]
  simp

theorem grown_set {w w' : World} {g g2 j : Nat} (h : w.grownBy w' (some g)) (h2 : g2 = g ∨ w.heap.size ≤ g2) (u : Value) : w.grownBy (w'.setCell ⟨g2, j, none⟩ u) (some g) := by
  refine ⟨h.os, h.tape, h.output, by rw [show (w'.setCell ⟨g2, j, none⟩ u).heap.size = w'.heap.size by simp [World.setCell]]; exact h.size, fun k hk hkr => ?_⟩
  have hne : g2 ≠ k := by
    rintro rfl
    rcases h2 with q | q
    · exact hkr (by rw [q])
    · omega
  rw [← h.block k hk hkr]
  simp [World.setCell, Array.getElem?_modify, hne]

set_option maxRecDepth 100000 in
set_option maxHeartbeats 4000000 in
theorem with_any {w : World} {B : Nat} {v : Value} {ps : List (List UInt8)} (s : ByteArray) (h : RowS w B v ps) (hnn : v ≠ .slice none 0 0) (hr : Rise ps) (hn : ps.length ≤ 4398046511104) (hB : B ≤ w.heap.size) :
    Calls Tryz.prog 65 #[v, .string s] w (WithA B ps (bys s) v w) := by
  obtain ⟨i0, hi, hz0, hz1, hz2⟩ := info_parts infoS
  have HP := hide (place_any s (TxS.of_row h) hr hn)
  have HH := hide (show w.ownsRow B 9 1 v ps.length (ps.map encStr) from h)
  have HR := hide hr
  have hv : ∃ g cap, v = .slice (some ⟨g, 0, none⟩) ps.length cap := by
    rcases h.2 with ⟨q, _⟩ | ⟨g, cap, cur, q, _⟩
    · exact absurd q hnn
    · exact ⟨g, cap, q⟩
  obtain ⟨g, cap, rfl⟩ := hv
  obtain ⟨L, hL⟩ : ∃ L, L = ps.length := ⟨_, rfl⟩
  have HL := hide hL
  rw [← hL] at hn HP HH ⊢
  clear h hr hL
  go_enter Tryz.func65, Tryz.ntmps65
  go_wp2_with fail
  refine HP.out.mono ?_
  rintro e w1 ⟨⟨p, hp, rfl⟩, hb⟩
  have HPP := hide hp
  have HB1 := hide hb
  have H1 := hide (own_belowB HH.out hb)
  have hpL : p ≤ L := by rw [HL.out]; exact hp.1
  cases hA : isAt ps (bys s) p with
  | true =>
    have HM := hide ((PosL.mem HR.out hp).1 hA)
    clear hp hb HP
    go_wp2
    go_ret
    refine ⟨.slice (some ⟨g, 0, none⟩) L cap, ps, rfl, by unfold RowS; rw [← HL.out]; exact H1.out, HR.out, fun x => ⟨.inl, fun q => ?_⟩, Nat.le_succ _, (fun e => by cases e), ⟨HB1.out.os, HB1.out.tape, HB1.out.output, HB1.out.size, fun k hk _ => HB1.out.block k hk⟩⟩
    rcases q with q | q
    · exact q
    · rw [q]; exact HM.out
  | false =>
    have HI := hide (insP_rise HR.out hp hA)
    have HIL : Hid ((insP ps (bys s) p).length = L + 1) := hide (by rw [insP_len hp.1, HL.out])
    have NEW : Hid (∀ j u, [encStr []][j]? = some u → (w1.alloc (.cells #[.string ⟨#[]⟩] 9)).cell? ((⟨w1.heap.size, 0, none⟩ : Addr).add j) = some u) := hide (fun j u hj => by
      have h : Blk (w1.alloc (.cells #[.string ⟨#[]⟩] 9)) w1.heap.size #[.string ⟨#[]⟩] 9 := Blk.newAt w1 w1.heap.size rfl _ _
      rw [Addr.add_lit, Nat.zero_add, h.cell j]
      match j, hj with
      | 0, hj => exact hj)
    have ONE : Hid (∀ u ∈ [encStr []], u.oneCell' = true) := hide (fun u hu => by
      simp only [List.mem_cons, List.not_mem_nil, or_false] at hu
      subst hu
      rfl)
    have OW := hide (own_belowB H1.out ((Below.refl w1.heap.size w1).alloc (Nat.le_refl _) (.cells #[.string ⟨#[]⟩] 9)))
    have HBA : Hid (w.grownBy (w1.alloc (.cells #[.string ⟨#[]⟩] 9)) (some g)) := hide (by
      have hz := HB1.out.alloc HB1.out.size (.cells #[.string ⟨#[]⟩] 9)
      exact ⟨hz.os, hz.tape, hz.output, hz.size, fun k hk _ => hz.block k hk⟩)
    have hBs : Hid (B ≤ (w1.alloc (.cells #[.string ⟨#[]⟩] 9)).heap.size) := hide (by show B ≤ (w1.heap.push _).size; rw [Array.size_push]; have := HB1.out.size; omega)
    have hgw := hide (World.ownsRow.lt HH.out g rfl).2
    clear hp hb HP
    go_wp2_with (at_builtin; refine wpList_append_lies _ rfl _ _ 38 rfl B 9 i0 (.string ⟨#[]⟩) 1 16 Tryz.underlying38 hi hz0 hz1 hz2 rfl (by decide) (.slice (some ⟨g, 0, none⟩) L cap) L (ps.map encStr) rfl OW.out ⟨w1.heap.size, 0, none⟩ 1 1 [encStr []] rfl rfl NEW.out ONE.out (by decide) (by unfold maxLen; omega) (by omega) hBs.out _ rfl ?_; intro g2 c2 w2 hown2 hgr2 hat2 hlt2)
    have HG2 : Hid (g2 = g ∨ w.heap.size ≤ g2) := hide (by
      rcases hat2 with q | q
      · left; simpa [Value.ownBlock] using q.symm
      · right
        rw [q]
        show w.heap.size ≤ (w1.heap.push _).size
        rw [Array.size_push]
        have := HB1.out.size
        omega)
    have GR : Hid (w.grownBy w2 (some g)) := hide (by
      have a := HBA.out
      refine ⟨hgr2.os.trans a.os, hgr2.tape.trans a.tape, hgr2.output.trans a.output, Nat.le_trans a.size hgr2.size, fun k hk hkr => ?_⟩
      rw [hgr2.block k (Nat.lt_of_lt_of_le hk a.size) (by simpa [Value.ownBlock] using hkr)]
      exact a.block k hk hkr)
    have O2 : Hid (w2.ownsRow B 9 1 (.slice (some ⟨g2, 0, none⟩) (L + 1) c2) (L + 1) ((ps.take L ++ [] :: ps.drop L).map encStr)) := hide (by
      have e : (ps.take L ++ [] :: ps.drop L).map encStr = ps.map encStr ++ [encStr []] := by
        rw [HL.out, List.take_length, List.drop_length, List.map_append]
        rfl
      rw [e]
      exact hown2)
    clear hown2 hgr2 hat2 hlt2 OW NEW HBA hBs hgw HB1 H1 HH
    go_wp2
    go_loopw [7] (fun x wr => ∃ (i : Nat) (c : List UInt8), x = .int .i64 (i : Int) ∧ p ≤ i ∧ i ≤ L ∧ Hid (wr.ownsRow B 9 1 (.slice (some ⟨g2, 0, none⟩) (L + 1) c2) (L + 1) ((ps.take i ++ c :: ps.drop i).map encStr)) ∧ Hid (w.grownBy wr (some g))) (fun x _ => (intOf x).toNat)
    case atStart => exact ⟨L, [], rfl, hpL, Nat.le_refl _, O2, GR⟩
    case round =>
      obtain ⟨i, c, rfl, hpi, hiL, HO, HG⟩ := hrel
      clear O2 GR
      by_cases hlt : p < i
      · obtain ⟨j, rfl⟩ : ∃ j, i = j + 1 := ⟨i - 1, by omega⟩
        have hjl : j < ps.length := by rw [← HL.out]; omega
        have hLEN : ((ps.take (j + 1) ++ c :: ps.drop (j + 1)).map encStr).length = L + 1 := by rw [List.length_map, List.length_append, List.length_cons, List.length_take, List.length_drop, ← HL.out]; omega
        have c0 : wr.cell? ⟨g2, j, none⟩ = some (.string ⟨(atP ps j).toArray⟩) := by
          rw [World.ownsRow.cellAt HO.out j (by omega), List.getElem?_map, List.getElem?_append_left (by rw [List.length_take]; omega), List.getElem?_take_of_lt (Nat.lt_succ_self j), atP_get hjl]
          rfl
        have c1 : wr.cell? ⟨g2, j + 1, none⟩ = some (encStr c) := by
          rw [World.ownsRow.cellAt HO.out (j + 1) (by omega), List.getElem?_map, List.getElem?_append_right (by rw [List.length_take]; omega), List.length_take, Nat.min_eq_left (by omega), Nat.sub_self]
          rfl
        have f1 := World.ownsRow.frozenAt HO.out (j + 1)
        have HO2 := hide (World.ownsRow.stored HO.out (j + 1) (.string ⟨(atP ps j).toArray⟩)).1
        have HL2 : Hid (((ps.take (j + 1) ++ c :: ps.drop (j + 1)).map encStr).set (j + 1) (.string ⟨(atP ps j).toArray⟩) = (ps.take j ++ atP ps j :: ps.drop j).map encStr) := hide (by
          rw [show Value.string ⟨(atP ps j).toArray⟩ = encStr (atP ps j) from rfl, ← List.map_set, take_step ps c j hjl])
        have HG3 := hide (grown_set (j := j + 1) HG.out HG2.out (.string ⟨(atP ps j).toArray⟩))
        have hj1 : (p : Int) < (j : Int) + 1 := by omega
        have hj2 : (j : Int) < (L : Int) + 1 := by omega
        have hj3 : (j : Int) + 1 < (L : Int) + 1 := by omega
        have hj4 : (j : Int) < 4398046511104 := by omega
        obtain ⟨t, ht⟩ : ∃ t : ByteArray, t = ⟨(atP ps j).toArray⟩ := ⟨_, rfl⟩
        rw [← ht] at c0 HO2 HL2 HG3
        clear ht hjl hLEN hlt HO HG
        rw [show ((j + 1 : Nat) : Int) = (j : Int) + 1 from rfl]
        go_wp2
        exact ⟨⟨j, atP ps j, by go_num, by omega, by omega, hide (by rw [← HL2.out]; exact HO2.out), HG3⟩, by simp [intOf]⟩
      · obtain rfl : p = i := by omega
        have hlt' : ¬ (p : Int) < (p : Int) := by omega
        have hLEN : ((ps.take p ++ c :: ps.drop p).map encStr).length = L + 1 := by rw [List.length_map, List.length_append, List.length_cons, List.length_take, List.length_drop, ← HL.out]; omega
        have c1 : wr.cell? ⟨g2, p, none⟩ = some (encStr c) := by
          rw [World.ownsRow.cellAt HO.out p (by omega), List.getElem?_map, List.getElem?_append_right (by rw [List.length_take]; omega), List.length_take, Nat.min_eq_left (by rw [← HL.out]; omega), Nat.sub_self]
          rfl
        have f1 := World.ownsRow.frozenAt HO.out p
        have HO2 := hide (World.ownsRow.stored HO.out p (.string s)).1
        have HL2 : Hid (((ps.take p ++ c :: ps.drop p).map encStr).set p (.string s) = (insP ps (bys s) p).map encStr) := hide (by
          rw [show Value.string s = encStr (bys s) from rfl, ← List.map_set]
          unfold insP
          rw [List.set_append_right _ _ (by rw [List.length_take]; omega), List.length_take, Nat.min_eq_left (by rw [← HL.out]; omega), Nat.sub_self]
          rfl)
        have HG3 := hide (grown_set (j := p) HG.out HG2.out (.string s))
        have hj2 : (p : Int) < (L : Int) + 1 := by omega
        clear hLEN hlt HO HG
        go_wp2
        go_ret
        refine ⟨.slice (some ⟨g2, 0, none⟩) (L + 1) c2, insP ps (bys s) p, rfl, ?_, HI.out, insP_mem, by rw [HIL.out, HL.out]; exact Nat.le_refl _, (fun e => by cases e), HG3.out⟩
        unfold RowS
        rw [HIL.out, ← HL2.out]
        exact HO2.out

end Go.Proofs.YtihnakblcfealaaGreatDoor

namespace Go.Proofs.YtihnakblcfealaaGreatDoor
open Go.RowKit

theorem runesI_iff (l : List UInt8) : (0 ≤ runesI l) ↔ (runesL l).isSome = true := by
  unfold runesI
  cases runesL l with
  | none => simp
  | some n => simp

set_option maxRecDepth 100000 in
set_option maxHeartbeats 2000000 in
theorem rMay_yes (s : ByteArray) (w : World) (hs : s.size ≤ 140737488355328) : Calls Tryz.prog 85 #[.string s, .bool true] w fun e w' => e = .returned (.bool (mayText s)) ∧ w = w' := by
  have HV := hide (rRunes_any s w hs)
  by_cases h : s.size ≤ 1024
  · have h' : (s.size : Int) ≤ 1024 := by omega
    have e1 : Hid (mayText s = (runesL (bys s)).isSome) := hide (by unfold mayText; rw [decide_eq_true h]; rfl)
    have hi := runesI_iff (bys s)
    generalize runesI (bys s) = N at *
    generalize (runesL (bys s)).isSome = b at *
    by_cases hn : 0 ≤ N
    · have hb : b = true := hi.1 hn
      subst hb
      clear hi
      go_enter Tryz.func85, Tryz.ntmps85
      go_wp2_with fail
      refine HV.out.mono ?_
      rintro e w1 ⟨rfl, rfl⟩
      clear HV
      go_wp2
      go_ret
      exact ⟨by rw [e1.out]; rfl, rfl⟩
    · have hb : b = false := by cases b with | false => rfl | true => exact absurd (hi.2 rfl) hn
      subst hb
      clear hi
      go_enter Tryz.func85, Tryz.ntmps85
      go_wp2_with fail
      refine HV.out.mono ?_
      rintro e w1 ⟨rfl, rfl⟩
      clear HV
      go_wp2
      go_ret
      exact ⟨by rw [e1.out]; exact congrArg (fun b => Ending.returned (Value.bool b)) (decide_eq_false (by omega)), rfl⟩
  · have h' : ¬ (s.size : Int) ≤ 1024 := by omega
    have e1 : mayText s = false := by unfold mayText; rw [decide_eq_false h]; rfl
    rw [e1]
    clear HV e1
    go_enter Tryz.func85, Tryz.ntmps85
    go_wp2
    go_ret
    exact ⟨rfl, rfl⟩

set_option maxRecDepth 100000 in
set_option maxHeartbeats 2000000 in
theorem rMay_no (s : ByteArray) (w : World) (hs : s.size ≤ 140737488355328) : Calls Tryz.prog 85 #[.string s, .bool false] w fun e w' => e = .returned (.bool (mayName s)) ∧ w = w' := by
  by_cases h0 : s.size = 0
  · obtain rfl := mk_empty h0
    have e1 : mayName ⟨#[]⟩ = false := rfl
    rw [e1]
    clear e1 h0 hs
    go_enter Tryz.func85, Tryz.ntmps85
    go_wp2
    go_ret
    exact ⟨rfl, rfl⟩
  have e0 : mayName s = mayText s := by unfold mayName; rw [decide_eq_true h0]; rfl
  rw [e0]
  have h2 := tl_ne h0
  have h3 := tl_ie h0
  have h4 := tl_nb h0
  have HV := hide (rRunes_any s w hs)
  by_cases h : s.size ≤ 1024
  · have h' : (s.size : Int) ≤ 1024 := by omega
    have e1 : Hid (mayText s = (runesL (bys s)).isSome) := hide (by unfold mayText; rw [decide_eq_true h]; rfl)
    have hi := runesI_iff (bys s)
    generalize runesI (bys s) = N at *
    generalize (runesL (bys s)).isSome = b at *
    by_cases hn : 0 ≤ N
    · have hb : b = true := hi.1 hn
      subst hb
      clear hi e0 h0 h
      go_enter Tryz.func85, Tryz.ntmps85
      go_wp2_with fail
      refine HV.out.mono ?_
      rintro e w1 ⟨rfl, rfl⟩
      clear HV
      go_wp2
      go_ret
      exact ⟨by rw [e1.out]; rfl, rfl⟩
    · have hb : b = false := by cases b with | false => rfl | true => exact absurd (hi.2 rfl) hn
      subst hb
      clear hi e0 h0 h
      go_enter Tryz.func85, Tryz.ntmps85
      go_wp2_with fail
      refine HV.out.mono ?_
      rintro e w1 ⟨rfl, rfl⟩
      clear HV
      go_wp2
      go_ret
      exact ⟨by rw [e1.out]; exact congrArg (fun b => Ending.returned (Value.bool b)) (decide_eq_false (by omega)), rfl⟩
  · have h' : ¬ (s.size : Int) ≤ 1024 := by omega
    have e1 : mayText s = false := by unfold mayText; rw [decide_eq_false h]; rfl
    rw [e1]
    clear HV e1 e0 h0 h
    go_enter Tryz.func85, Tryz.ntmps85
    go_wp2
    go_ret
    exact ⟨rfl, rfl⟩

set_option maxRecDepth 100000 in
set_option maxHeartbeats 4000000 in
theorem rentry_any (e : Ent) (w : World) (hs : e.text.size ≤ 140737488355328) : Calls Tryz.prog 86 #[entV e] w fun x w' => x = .returned (.bool (mayVal e)) ∧ Below w.heap.size w w' := by
  obtain ⟨k, d, t, n⟩ := e
  have HB0 : Hid (Below w.heap.size w (w.alloc (.cells #[.string k, .int .i64 d, .string t, .int .i64 n] 33))) := (Below.refl _ _).alloc (Nat.le_refl _) _
  have BR0 := hide (Blk.newAt w w.heap.size rfl #[.string k, .int .i64 d, .string t, .int .i64 n] 33)
  obtain ⟨W, hW⟩ : ∃ W, W = w.alloc (.cells #[.string k, .int .i64 d, .string t, .int .i64 n] 33) := ⟨_, rfl⟩
  rw [← hW] at HB0 BR0
  have HW := hide hW.symm
  clear hW
  have c1 := BR0.out.cell 1
  have c2 := BR0.out.cell 2
  have c3 := BR0.out.cell 3
  have hs' : t.size ≤ 140737488355328 := hs
  unfold entV
  by_cases h0 : d = 0
  · subst h0
    have e1 : Hid (mayVal ⟨k, 0, t, n⟩ = (mayText t && decide (n = 0))) := hide rfl
    have HV := hide (rMay_yes t W hs')
    generalize mayText t = b at *
    clear hs hs'
    by_cases hn : n = 0
    · subst hn
      go_enter Tryz.func86, Tryz.ntmps86
      go_wp2_with (simp only [HW.out])
      refine HV.out.mono ?_
      rintro e w1 ⟨rfl, rfl⟩
      clear HV
      go_wp2
      go_ret
      exact ⟨by rw [e1.out]; cases b <;> rfl, HB0.out⟩
    · have hn' : (n == 0) = false := beq_eq_false_iff_ne.2 hn
      have e2 : Hid (mayVal ⟨k, 0, t, n⟩ = false) := hide (by rw [e1.out, decide_eq_false hn, Bool.and_false])
      clear e1 HV hn
      go_enter Tryz.func86, Tryz.ntmps86
      go_wp2_with (simp only [HW.out])
      go_ret
      exact ⟨by rw [e2.out]; rfl, HB0.out⟩
  by_cases h1 : d = 1
  · subst h1
    by_cases ht : t.size = 0
    · obtain rfl := mk_empty ht
      have e1 : Hid (mayVal ⟨k, 1, ⟨#[]⟩, n⟩ = decide (0 ≤ n ∧ n ≤ 4294967295)) := hide (by
        unfold mayVal; rw [if_neg (show ¬ (1 : Int) = 0 by decide), if_pos rfl]; exact decide_eq_decide.2 ⟨fun h => h.2, fun h => ⟨rfl, h⟩⟩)
      clear hs hs' ht h0
      go_enter Tryz.func86, Tryz.ntmps86
      go_wp2_with (simp only [HW.out])
      all_goals go_ret
      all_goals refine ⟨?_, HB0.out⟩
      all_goals rw [e1.out]
      all_goals (refine congrArg (fun b => Ending.returned (Value.bool b)) ?_)
      all_goals (first | exact decide_eq_decide.2 (by omega) | (rw [eq_comm]; exact decide_eq_false (by omega)))
    · have e1 : Hid (mayVal ⟨k, 1, t, n⟩ = false) := hide (by
        unfold mayVal; rw [if_neg (show ¬ (1 : Int) = 0 by decide), if_pos rfl]; exact decide_eq_false (fun h => ht h.1))
      have h2 := tl_ne ht
      have h4 := tl_nb ht
      clear hs hs' ht h0
      go_enter Tryz.func86, Tryz.ntmps86
      go_wp2_with (simp only [HW.out])
      go_ret
      exact ⟨by rw [e1.out]; rfl, HB0.out⟩
  by_cases h2 : d = 2
  · subst h2
    have e1 : Hid (mayVal ⟨k, 2, t, n⟩ = (mayName t && decide (n = 0))) := hide rfl
    have HV := hide (rMay_no t W hs')
    generalize mayName t = b at *
    clear hs hs' h0 h1
    by_cases hn : n = 0
    · subst hn
      go_enter Tryz.func86, Tryz.ntmps86
      go_wp2_with (simp only [HW.out])
      refine HV.out.mono ?_
      rintro e w1 ⟨rfl, rfl⟩
      clear HV
      go_wp2
      go_ret
      exact ⟨by rw [e1.out]; cases b <;> rfl, HB0.out⟩
    · have hn' : (n == 0) = false := beq_eq_false_iff_ne.2 hn
      have e2 : Hid (mayVal ⟨k, 2, t, n⟩ = false) := hide (by rw [e1.out, decide_eq_false hn, Bool.and_false])
      clear e1 HV hn
      go_enter Tryz.func86, Tryz.ntmps86
      go_wp2_with (simp only [HW.out])
      go_ret
      exact ⟨by rw [e2.out]; rfl, HB0.out⟩
  have e1 : Hid (mayVal ⟨k, d, t, n⟩ = false) := hide (by unfold mayVal; rw [if_neg h0, if_neg h1, if_neg h2])
  have g0 : (d == 0) = false := beq_eq_false_iff_ne.2 h0
  have g1 : (d == 1) = false := beq_eq_false_iff_ne.2 h1
  have g2 : (d == 2) = false := beq_eq_false_iff_ne.2 h2
  clear hs hs' h0 h1 h2
  go_enter Tryz.func86, Tryz.ntmps86
  go_wp2_with (simp only [HW.out])
  go_ret
  exact ⟨by rw [e1.out]; rfl, HB0.out⟩

end Go.Proofs.YtihnakblcfealaaGreatDoor

namespace Go.Proofs.YtihnakblcfealaaGreatDoor
open Go.RowKit

theorem leT_nil {s : ByteArray} (h : mayName s = true) : leT s ⟨#[]⟩ = false := by
  have hs : s.size ≠ 0 := by
    intro e
    unfold mayName at h
    rw [decide_eq_false (by simpa using e)] at h
    cases h
  rw [leT_iff]
  refine decide_eq_false ?_
  have h1 : (bys s).length ≠ 0 := by rw [bys_len]; exact hs
  intro h2
  cases hb : bys s with
  | nil => rw [hb] at h1; exact h1 rfl
  | cons a l =>
    rw [hb] at h2
    exact List.not_lt.2 h2 (List.nil_lt_cons a l)

def lastE (es : List Ent) (j : Nat) : ByteArray := match j with | 0 => ⟨#[]⟩ | i + 1 => (entN es i).key

set_option maxRecDepth 100000 in
set_option maxHeartbeats 4000000 in
theorem rtable_any {w : World} {v : Value} {ts : List Tab} (k : Nat) (h : TSl w v ts) (hk : k < ts.length) (hl : ts.length ≤ 16) (hz : SzT ts) (he : (tabN ts k).ents.length ≤ 1024) : Calls Tryz.prog 64 #[v, .int .i64 (k : Int)] w fun e w' => e = .returned (.int .i64 (tabE ts k : Int)) ∧ Below w.heap.size w w' := by
  obtain ⟨ao, cap, rfl, hcap, h3⟩ := h
  rcases h3 with rfl | ⟨b, o, rfl, hb, h3⟩
  · simp at hk
  obtain ⟨c0, c1, v2, c2, hes⟩ := h3 k hk
  obtain ⟨zn, _, zE⟩ := hz k
  obtain ⟨WA, hWA⟩ : ∃ WA, WA = w.alloc (.cells #[.string (tabN ts k).name, .int .i64 (tabN ts k).parent, v2] 31) := ⟨_, rfl⟩
  have BA : Hid (Below w.heap.size w WA) := hide (by rw [hWA]; exact (Below.refl _ _).alloc (Nat.le_refl _) _)
  have Q : Hid (Blk WA w.heap.size #[.string (tabN ts k).name, .int .i64 (tabN ts k).parent, v2] 31) := hide (by rw [hWA]; exact Blk.newAt w w.heap.size rfl _ _)
  have HN := hide (rMay_no (tabN ts k).name WA (by omega))
  have NMS : Hid (∀ X, Below w.heap.size w X → ∀ j, j < ts.length → X.cell? ⟨b, o + j * 3, none⟩ = some (.string (tabN ts j).name)) := hide (fun X hX j hj => ((h3 j hj).below hb hX).1)
  have HES := hide (hes.below BA.out)
  have KP : Hid (∀ X, Below WA.heap.size WA X → Blk X w.heap.size #[.string (tabN ts k).name, .int .i64 (tabN ts k).parent, v2] 31) := hide (fun X hX => Q.out.below hX Q.out.lt)
  have RE : Hid (tabE ts k = if mayName (tabN ts k).name = false then 120 else if placeT (ts.take k) (tabN ts k).name ≠ -1 ∨ (tabN ts k).parent < -1 ∨ (k : Int) ≤ (tabN ts k).parent then 122 else entsE ⟨#[]⟩ (tabN ts k).ents) := hide rfl
  obtain ⟨R, hR⟩ : ∃ R, R = tabE ts k := ⟨_, rfl⟩
  rw [← hR] at RE ⊢
  obtain ⟨es, hes'⟩ : ∃ es, es = (tabN ts k).ents := ⟨_, rfl⟩
  rw [← hes'] at RE HES zE he hes
  obtain ⟨aE, capE, rfl, hce, hEat⟩ := hes
  have HEA := hide (hEat.below BA.out)
  clear HES hEat
  have PLD : Hid (∀ j, j < k → placeF (tabN ts k).name j ((ts.take k).drop j) = if (tabN ts j).name = (tabN ts k).name then (j : Int) else placeF (tabN ts k).name (j + 1) ((ts.take k).drop (j + 1))) := hide (fun j hj => by
    have := placeF_drop (ts.take k) (tabN ts k).name j (by rw [List.length_take]; omega)
    rw [tabN_take ts hj] at this
    exact this)
  have PL0 : Hid (placeT (ts.take k) (tabN ts k).name = placeF (tabN ts k).name 0 ((ts.take k).drop 0)) := hide rfl
  have PLE : Hid (placeF (tabN ts k).name k ((ts.take k).drop k) = -1) := hide (by rw [List.drop_eq_nil_of_le (by rw [List.length_take]; omega)]; rfl)
  obtain ⟨P, hP⟩ : ∃ P, P = placeT (ts.take k) (tabN ts k).name := ⟨_, rfl⟩
  rw [← hP] at RE PL0
  generalize (tabN ts k).name = N at *
  generalize (tabN ts k).parent = D at *
  obtain ⟨L, hL⟩ : ∃ L, L = ts.length := ⟨_, rfl⟩
  rw [← hL] at hk hcap hl NMS ⊢
  obtain ⟨M, hM⟩ : ∃ M, M = es.length := ⟨_, rfl⟩
  rw [← hM] at he hce Q KP hWA c2
  have HM := hide hM
  have hk' : (k : Int) < (L : Int) := by omega
  have q0 := Q.out.cell 0
  have HWA := hide hWA.symm
  have HZ := hide zE
  clear hR h3 hWA hz zn zE hP hL hM hes'
  cases hm : mayName N with
  | false =>
    have EE : Hid (R = 120) := hide (by rw [RE.out, if_pos hm])
    rw [hm] at HN
    clear RE hm PLD PL0 PLE
    go_enter Tryz.func64, Tryz.ntmps64
    go_wp2_with (simp only [HWA.out])
    refine HN.out.mono ?_
    rintro e w1 ⟨rfl, rfl⟩
    clear HN
    go_wp2
    go_ret
    exact ⟨by rw [EE.out]; rfl, BA.out⟩
  | true =>
    rw [if_neg (by rw [hm]; decide)] at RE
    rw [hm] at HN
    clear hm
    go_enter Tryz.func64, Tryz.ntmps64
    go_wp2_with (simp only [HWA.out])
    refine HN.out.mono ?_
    rintro e w1 ⟨rfl, rfl⟩
    clear HN
    go_wp2
    go_loopw [6] (fun p wr => ∃ j : Nat, j ≤ k ∧ p = .int .i64 (j : Int) ∧ Hid (P = placeF N j ((ts.take k).drop j)) ∧ Hid (Below WA.heap.size WA wr)) (fun p _ => k - (intOf p).toNat)
    case atStart => exact ⟨0, Nat.zero_le _, rfl, PL0, hide (Below.refl _ _)⟩
    case round =>
      obtain ⟨j, hj, rfl, HF, HW⟩ := hrel
      clear q0 PL0
      have q0 := (KP.out wr HW.out).cell 0
      by_cases hlt : j < k
      · have hlt' : (j : Int) < (k : Int) := by omega
        have hjL : (j : Int) < (L : Int) := by omega
        have n0 := NMS.out wr (BA.out.trans (HW.out.mono BA.out.size)) j (by omega)
        have F1 := hide (PLD.out j hlt)
        obtain ⟨nj, hnj⟩ : ∃ nj, nj = (tabN ts j).name := ⟨_, rfl⟩
        rw [← hnj] at n0 F1
        clear hnj
        by_cases hn : nj = N
        · have EE : Hid (R = 122) := hide (by
            rw [RE.out, if_pos]
            left
            rw [HF.out, F1.out, if_pos hn]
            omega)
          have hn' : (nj.toList == N.toList) = true := by rw [eqT, decide_eq_true hn]
          clear RE F1 HF hn PLD PLE
          go_wp2_with fail
          go_region
          go_wp2
          go_ret
          exact ⟨by rw [EE.out]; rfl, (BA.out.trans (HW.out.mono BA.out.size)).drew⟩
        · have EN : Hid (P = placeF N (j + 1) ((ts.take k).drop (j + 1))) := hide (by rw [HF.out, F1.out, if_neg hn])
          have hn' : (nj.toList == N.toList) = false := by rw [eqT, decide_eq_false hn]
          clear F1 HF hn
          go_wp2_with fail
          go_region
          go_wp2
          exact ⟨⟨j + 1, by omega, by go_num, EN, hide HW.out.drew⟩, by simp [intOf]; omega⟩
      · obtain rfl : j = k := by omega
        have hlt' : ¬ (j : Int) < (j : Int) := by omega
        have P1 : P = -1 := by rw [HF.out, PLE.out]
        subst P1
        have q1 := (KP.out wr HW.out).cell 1
        have q2 := (KP.out wr HW.out).cell 2
        have BW := hide (BA.out.trans (HW.out.mono BA.out.size))
        clear HF PLD PLE hlt
        by_cases hD : D < -1
        · have EE : Hid (R = 122) := hide (by rw [RE.out, if_pos (.inr (.inl hD))])
          clear RE
          go_wp2
          go_ret
          exact ⟨by rw [EE.out]; rfl, BW.out⟩
        by_cases hD2 : (j : Int) ≤ D
        · have EE : Hid (R = 122) := hide (by rw [RE.out, if_pos (.inr (.inr hD2))])
          clear RE
          go_wp2
          go_ret
          exact ⟨by rw [EE.out]; rfl, BW.out⟩
        have RE2 : Hid (R = entsE ⟨#[]⟩ es) := hide (by
          rw [RE.out, if_neg]
          rintro (q | q | q)
          · exact q rfl
          · exact hD q
          · exact hD2 q)
        clear RE q1 q2 q0
        have q1 := (KP.out wr HW.out).cell 1
        go_wp2
        go_loopw [7] (fun p wr => ∃ i : Nat, i ≤ M ∧ p = .int .i64 (i : Int) ∧ Hid (R = entsE (lastE es i) (es.drop i)) ∧ Hid (Below WA.heap.size WA wr)) (fun p _ => M - (intOf p).toNat)
        case atStart => exact ⟨0, Nat.zero_le _, rfl, hide (by rw [RE2.out]; rfl), HW⟩
        case round =>
          obtain ⟨i, hi, rfl, HG, HX⟩ := hrel
          clear q1
          have q2 := (KP.out wr HX.out).cell 2
          by_cases hil : i < M
          · have hil' : (i : Int) < (M : Int) := by omega
            have hit : i < es.length := by rw [← HM.out]; exact hil
            obtain ⟨b2, o2, rfl, HCL⟩ : ∃ b2 o2, aE = some ⟨b2, o2, none⟩ ∧ Hid (∀ X, Below WA.heap.size WA X → ∀ j, j < es.length → X.cell? ⟨b2, o2 + j * 4, none⟩ = some (.string (entN es j).key) ∧ X.cell? ⟨b2, o2 + j * 4 + 1, none⟩ = some (.int .i64 (entN es j).kind) ∧ X.cell? ⟨b2, o2 + j * 4 + 2, none⟩ = some (.string (entN es j).text) ∧ X.cell? ⟨b2, o2 + j * 4 + 3, none⟩ = some (.int .i64 (entN es j).num)) := by
              rcases HEA.out with q | ⟨b2, o2, rfl, q, hcl⟩
              · rw [q] at hit; simp at hit
              · exact ⟨b2, o2, rfl, hide (fun X hX j hj => by
                  obtain ⟨z0, z1, z2, z3⟩ := hcl j hj
                  exact ⟨(hX.cell q).trans z0, (hX.cell q).trans z1, (hX.cell q).trans z2, (hX.cell q).trans z3⟩)⟩
            obtain ⟨x0, x1, x2, x3⟩ := HCL.out wr HX.out i hit
            have E1 := hide (entsE_drop es (lastE es i) i hit)
            rw [← HG.out] at E1
            have hzi := HZ.out i
            have LST : Hid (lastE es (i + 1) = (entN es i).key) := hide rfl
            obtain ⟨e, he0⟩ : ∃ e, e = entN es i := ⟨_, rfl⟩
            rw [← he0] at x0 x1 x2 x3 E1 hzi LST
            clear he0
            obtain ⟨ek, en, et, em⟩ := e
            simp only [] at x0 x1 x2 x3 LST hzi
            obtain ⟨WB, hWB⟩ : ∃ WB, WB = wr.alloc (.cells #[.string ek, .int .i64 en, .string et, .int .i64 em] 33) := ⟨_, rfl⟩
            have BB : Hid (Below wr.heap.size wr WB) := hide (by rw [hWB]; exact (Below.refl _ _).alloc (Nat.le_refl _) _)
            have Q3 : Hid (Blk WB wr.heap.size #[.string ek, .int .i64 en, .string et, .int .i64 em] 33) := hide (by rw [hWB]; exact Blk.newAt wr wr.heap.size rfl _ _)
            have W0 : Hid (Below WA.heap.size WA WB) := hide (HX.out.trans (BB.out.mono HX.out.size))
            have HWB := hide hWB.symm
            have HMN := hide (rMay_no ek WB (by omega))
            have HV0 : Hid (∀ X, Below WB.heap.size WB X → Calls Tryz.prog 86 #[.agg #[.string ek, .int .i64 en, .string et, .int .i64 em]] X fun x w' => x = .returned (.bool (mayVal ⟨ek, en, et, em⟩)) ∧ Below X.heap.size X w') := hide (fun X _ => rentry_any ⟨ek, en, et, em⟩ X (by show et.size ≤ _; omega))
            have d0 := Q3.out.cell 0
            have d2 := (KP.out WB W0.out).cell 2
            clear hWB HG hzi
            cases hm : mayName ek with
            | false =>
              have EE : Hid (R = 120) := hide (by rw [E1.out, if_pos hm])
              rw [hm] at HMN
              clear E1 hm HV0
              go_wp2_with (simp only [HWB.out])
              refine HMN.out.mono ?_
              rintro z w1 ⟨rfl, rfl⟩
              clear HMN
              go_wp2
              go_ret
              exact ⟨by rw [EE.out]; rfl, BA.out.trans (W0.out.mono BA.out.size)⟩
            | true =>
              rw [if_neg (by rw [hm]; decide)] at E1
              rw [hm] at HMN
              cases i with
              | zero =>
                rw [if_neg (by rw [show lastE es 0 = ⟨#[]⟩ from rfl, leT_nil hm]; decide)] at E1
                clear hm
                rw [Nat.zero_mul, Nat.add_zero] at x0 x1 x2 x3
                rw [show ((0 : Nat) : Int) = 0 from rfl] at hil'
                go_wp2_with (simp only [HWB.out])
                refine HMN.out.mono ?_
                rintro z w1 ⟨rfl, rfl⟩
                clear HMN
                go_wp2_with fail
                go_region
                have p0 := Q3.out.cell 0
                have p1 := Q3.out.cell 1
                have p2 := Q3.out.cell 2
                have p3 := Q3.out.cell 3
                cases hv : mayVal ⟨ek, en, et, em⟩ with
                | false =>
                  have EE : Hid (R = 120) := hide (by rw [E1.out, if_pos hv])
                  rw [hv] at HV0
                  have HV1 := hide (HV0.out _ (Below.refl _ _).drew)
                  clear E1 hv HV0
                  go_wp2_with fail
                  refine HV1.out.mono ?_
                  rintro z w2 ⟨rfl, hb2⟩
                  have HB2 := hide (BA.out.trans ((W0.out.drew.trans (hb2.mono W0.out.size)).mono BA.out.size))
                  clear hb2 HV1
                  go_wp2
                  go_ret
                  exact ⟨by rw [EE.out]; rfl, HB2.out⟩
                | true =>
                  rw [if_neg (by rw [hv]; decide)] at E1
                  rw [hv] at HV0
                  have HV1 := hide (HV0.out _ (Below.refl _ _).drew)
                  clear hv HV0
                  go_wp2_with fail
                  refine HV1.out.mono ?_
                  rintro z w2 ⟨rfl, hb2⟩
                  have HB2 := hide (W0.out.drew.trans (hb2.mono W0.out.size))
                  clear hb2 HV1
                  go_wp2
                  exact ⟨⟨0 + 1, by omega, by go_num, hide (by rw [LST.out]; exact E1.out), HB2⟩, by simp [intOf]; omega⟩
              | succ i' =>
                clear hm
                obtain ⟨y0, _, _, _⟩ := HCL.out WB W0.out i' (by omega)
                have LS2 : Hid (lastE es (i' + 1) = (entN es i').key) := hide rfl
                obtain ⟨lk, hlk⟩ : ∃ lk, lk = (entN es i').key := ⟨_, rfl⟩
                rw [← hlk] at y0 LS2
                clear hlk
                rw [LS2.out] at E1
                cases hle : leT ek lk with
                | true =>
                  have EE : Hid (R = 122) := hide (by rw [E1.out, if_pos hle])
                  have hle' : (Op.bytesLess ek.toList lk.toList || ek.toList == lk.toList) = true := hle
                  clear E1 hle HV0
                  go_wp2_with (simp only [HWB.out])
                  refine HMN.out.mono ?_
                  rintro z w1 ⟨rfl, rfl⟩
                  clear HMN
                  go_wp2_with fail
                  go_region
                  go_wp2
                  go_ret
                  exact ⟨by rw [EE.out]; rfl, BA.out.trans (W0.out.drew.mono BA.out.size)⟩
                | false =>
                  rw [if_neg (by rw [hle]; decide)] at E1
                  have hle' : (Op.bytesLess ek.toList lk.toList || ek.toList == lk.toList) = false := hle
                  clear hle
                  go_wp2_with (simp only [HWB.out])
                  refine HMN.out.mono ?_
                  rintro z w1 ⟨rfl, rfl⟩
                  clear HMN
                  go_wp2_with fail
                  go_region
                  have p0 := Q3.out.cell 0
                  have p1 := Q3.out.cell 1
                  have p2 := Q3.out.cell 2
                  have p3 := Q3.out.cell 3
                  cases hv : mayVal ⟨ek, en, et, em⟩ with
                  | false =>
                    have EE : Hid (R = 120) := hide (by rw [E1.out, if_pos hv])
                    rw [hv] at HV0
                    have HV1 := hide (HV0.out _ (Below.refl _ _).drew)
                    clear E1 hv HV0
                    go_wp2_with fail
                    refine HV1.out.mono ?_
                    rintro z w2 ⟨rfl, hb2⟩
                    have HB2 := hide (BA.out.trans ((W0.out.drew.trans (hb2.mono W0.out.size)).mono BA.out.size))
                    clear hb2 HV1
                    go_wp2
                    go_ret
                    exact ⟨by rw [EE.out]; rfl, HB2.out⟩
                  | true =>
                    rw [if_neg (by rw [hv]; decide)] at E1
                    rw [hv] at HV0
                    have HV1 := hide (HV0.out _ (Below.refl _ _).drew)
                    clear hv HV0
                    go_wp2_with fail
                    refine HV1.out.mono ?_
                    rintro z w2 ⟨rfl, hb2⟩
                    have HB2 := hide (W0.out.drew.trans (hb2.mono W0.out.size))
                    clear hb2 HV1
                    go_wp2
                    exact ⟨⟨(i' + 1) + 1, by omega, by go_num, hide (by rw [LST.out]; exact E1.out), HB2⟩, by simp [intOf]; omega⟩
          · obtain rfl : i = M := by omega
            have hil' : ¬ (i : Int) < (i : Int) := by omega
            have EE : Hid (R = 0) := hide (by rw [HG.out, List.drop_eq_nil_of_le (by rw [← HM.out]; exact Nat.le_refl _)]; rfl)
            clear HG hil
            go_wp2
            go_ret
            exact ⟨by rw [EE.out]; rfl, BA.out.trans (HX.out.mono BA.out.size)⟩

end Go.Proofs.YtihnakblcfealaaGreatDoor

namespace Go.Proofs.YtihnakblcfealaaGreatDoor
open Go.RowKit

def PM (qs : List (List UInt8)) (l : List ByteArray) : Prop := ∀ x, x ∈ qs ↔ ∃ t ∈ l, bys t = x
theorem PM.add {qs qs' : List (List UInt8)} {l : List ByteArray} {s : ByteArray} (h : PM qs l) (h' : ∀ x, x ∈ qs' ↔ x ∈ qs ∨ x = bys s) : PM qs' (l ++ [s]) := by
  intro x
  rw [h' x, h x]
  constructor
  · rintro (⟨t, ht, e⟩ | e)
    · exact ⟨t, List.mem_append_left _ ht, e⟩
    · exact ⟨s, by simp, e.symm⟩
  · rintro ⟨t, ht, e⟩
    rcases List.mem_append.1 ht with q | q
    · exact .inl ⟨t, q, e⟩
    · simp at q; subst q; exact .inr e.symm
theorem PM.pool {qs : List (List UInt8)} {l : List ByteArray} (h : PM qs l) (hr : Rise qs) : qs = poolL l :=
  rise_eq hr (pool_rise l) (fun x => by rw [h x, pool_mem])

theorem pl_next (ts : List Tab) (k : Nat) (hk : k < ts.length) : textsL (ts.take (k + 1)) = textsL (ts.take k) ++ ([(tabN ts k).name] ++ (tabN ts k).ents.flatMap entL) := by
  unfold textsL
  rw [List.take_add_one, tabN_some hk, List.flatMap_append]
  simp [tabL]
theorem pl_ent (es : List Ent) (j : Nat) (hj : j < es.length) : (es.take (j + 1)).flatMap entL = (es.take j).flatMap entL ++ entL (entN es j) := by
  rw [List.take_add_one, entN_some hj, List.flatMap_append]
  simp

theorem blk_apart {w : World} {H B sz n : Nat} {cs : Array Value} {T e : TypeId} {v : Value} {xs : List Value} (q : Blk w H cs T) (h : w.ownsRow B e sz v n xs) (he : T ≠ e) : some H ≠ v.ownBlock := by
  rcases h.2 with ⟨rfl, _⟩ | ⟨g, cap, cur, rfl, _, hh, _⟩
  · simp [Value.ownBlock]
  · intro e'
    simp only [Value.ownBlock, Option.some.injEq] at e'
    subst e'
    unfold Blk at q
    rw [hh] at q
    simp at q
    exact he q.2.symm

theorem RowS.belowB {w w' : World} {B : Nat} {v : Value} {ps : List (List UInt8)} (h : RowS w B v ps) (hb : Below w.heap.size w w') : RowS w' B v ps := own_belowB h hb

theorem WithA.below {B : Nat} {ps : List (List UInt8)} {v : Value} {w w0 w' : World} (hg : w.grownBy w' v.ownBlock) (h : RowS w B v ps) (hb : Below B w0 w) (hB : B ≤ w.heap.size) : Below B w0 w' :=
  hb.grown hg hB (fun j hj => (World.ownsRow.lt h j hj).1)

set_option maxRecDepth 100000 in
set_option maxHeartbeats 4000000 in
theorem pool_any {w : World} {v : Value} {ts : List Tab} (h : TSl w v ts) (hl : ts.length ≤ 16) (he : ∀ k, (tabN ts k).ents.length ≤ 1024) :
    Calls Tryz.prog 36 #[.agg #[v]] w fun e w' => ∃ u, e = .returned u ∧ RowS w' w.heap.size u (poolL (textsL ts)) ∧ u ≠ .slice none 0 0 ∧ Below w.heap.size w w' := by
  obtain ⟨ao, cap, rfl, hcap, hat⟩ := h
  obtain ⟨L, hL⟩ : ∃ L, L = ts.length := ⟨_, rfl⟩
  have HL := hide hL
  have HAT := hide hat
  have HE := hide he
  rw [← hL] at hl hcap ⊢
  clear hL hat he
  obtain ⟨WA, hWA⟩ : ∃ WA, WA = w.alloc (.cells #[.slice ao L cap] 24) := ⟨_, rfl⟩
  have BA : Hid (Below w.heap.size w WA) := hide (by rw [hWA]; exact (Below.refl _ _).alloc (Nat.le_refl _) _)
  have Q1 : Hid (Blk WA w.heap.size #[.slice ao L cap] 24) := hide (by rw [hWA]; exact Blk.newAt _ _ rfl _ _)
  have KP : Hid (∀ X, Below WA.heap.size WA X → Blk X w.heap.size #[.slice ao L cap] 24) := hide (fun X hX => Q1.out.below hX Q1.out.lt)
  have HWA := hide hWA.symm
  have q0 := Q1.out.cell 0
  obtain ⟨B, hB⟩ : ∃ B, B = WA.heap.size := ⟨_, rfl⟩
  have HB := hide hB
  have HBw : Hid (w.heap.size ≤ B) := hide (by rw [hB]; exact BA.out.size)
  clear hWA hB
  go_enter Tryz.func36, Tryz.ntmps36
  go_wp2_with (simp only [HWA.out])
  go_loopw [3, 4] (fun u y wr => ∃ (k : Nat) (qs : List (List UInt8)), y = .int .i64 (k : Int) ∧ k ≤ L ∧ Hid (RowS wr B u qs) ∧ Hid (u ≠ .slice none 0 0) ∧ Hid (Rise qs ∧ PM qs (textsL (ts.take k))) ∧ Hid (qs.length ≤ k * 3000) ∧ Hid (Below WA.heap.size WA wr)) (fun _ y _ => L - (intOf y).toNat)
  case atStart =>
    refine ⟨0, [], rfl, Nat.zero_le _, hide ?_, hide (fun e => by cases e), hide ⟨List.Pairwise.nil, fun x => by simp [textsL]⟩, hide (Nat.zero_le _), hide ((Below.refl _ _).alloc (Nat.le_refl _) _)⟩
    exact World.ownsRow_lit WA #[] 0 (by rw [HB.out]; exact Nat.le_refl _) (by unfold maxLen; omega) rfl
  case round =>
    obtain ⟨k, qs, rfl, hk, HR, HN, HM, HC, HW⟩ := hrel
    clear q0
    have q0 := (KP.out wr HW.out).cell 0
    by_cases hkl : k < L
    · have hkl' : (k : Int) < (L : Int) := by omega
      have hkt : k < ts.length := by rw [← HL.out]; exact hkl
      have hek := HE.out k
      have TX := hide (pl_next ts k hkt)
      obtain ⟨b, o, rfl, HBB, HCL⟩ : ∃ b o, ao = some ⟨b, o, none⟩ ∧ Hid (b < w.heap.size) ∧ Hid (∀ i, i < ts.length → TabAt w b o i (tabN ts i)) := by
        rcases HAT.out with q | ⟨b, o, rfl, q, hcl⟩
        · rw [q] at hkt; simp at hkt
        · exact ⟨b, o, rfl, hide q, hide hcl⟩
      obtain ⟨d0, d1, ve, d2, hes⟩ := HCL.out k hkt
      obtain ⟨g, hg⟩ : ∃ g, g = tabN ts k := ⟨_, rfl⟩
      rw [← hg] at d0 d1 hes TX hek
      clear hg
      obtain ⟨nm, pr, es⟩ := g
      simp only [] at d0 d1 d2 hes hek
      obtain ⟨ae, ce, rfl, hce, hea⟩ := hes
      obtain ⟨M, hM⟩ : ∃ M, M = es.length := ⟨_, rfl⟩
      rw [← hM] at d2 hce hek
      have HM0 := hide hM
      have HEA := hide hea
      have CX : Hid (∀ X, Below WA.heap.size WA X → X.cell? ⟨b, o + k * 3, none⟩ = some (.string nm) ∧ X.cell? ⟨b, o + k * 3 + 2, none⟩ = some (.slice ae M ce)) := hide (fun X hX => ⟨((BA.out.trans (hX.mono BA.out.size)).cell HBB.out).trans d0, ((BA.out.trans (hX.mono BA.out.size)).cell HBB.out).trans d2⟩)
      have c0 := (CX.out wr HW.out).1
      have hB0 : Hid (B ≤ wr.heap.size) := hide (by rw [HB.out]; exact HW.out.size)
      have W0 := hide (with_any nm HR.out HN.out HM.out.1 (by have := HC.out; omega) hB0.out)
      clear d0 d1 d2 hM hea hkt HCL
      go_wp2_with fail
      refine W0.out.mono ?_
      rintro x w1 ⟨u1, qs1, rfl, hr1, hrise1, hmem1, hlen1, hnn1, hg1⟩
      have HW1 : Hid (Below WA.heap.size WA w1) := hide (by
        have := WithA.below hg1 HR.out (show Below B WA wr by rw [HB.out]; exact HW.out) hB0.out
        rw [HB.out] at this
        exact this)
      have M1 := hide (HM.out.2.add hmem1)
      have L1 : Hid (qs1.length ≤ k * 3000 + 1) := hide (by have := HC.out; omega)
      have R1 := hide hr1
      have N1 := hide hnn1
      have RI1 := hide hrise1
      clear hr1 hnn1 hg1 hmem1 hlen1 hrise1 W0 q0 c0 HR HN HM HC HW hB0
      go_wp2
      go_loopw [3, 5] (fun u2 y wr => ∃ (j : Nat) (qs : List (List UInt8)), y = .int .i64 (j : Int) ∧ j ≤ M ∧ Hid (RowS wr B u2 qs) ∧ Hid (u2 ≠ .slice none 0 0) ∧ Hid (Rise qs ∧ PM qs (textsL (ts.take k) ++ ([nm] ++ (es.take j).flatMap entL))) ∧ Hid (qs.length ≤ k * 3000 + 1 + 2 * j) ∧ Hid (Below WA.heap.size WA wr)) (fun _ y _ => M - (intOf y).toNat)
      case atStart => exact ⟨0, qs1, rfl, Nat.zero_le _, R1, N1, hide ⟨RI1.out, by simpa using M1.out⟩, hide (by have := L1.out; omega), HW1⟩
      case round =>
        clear R1 N1 RI1 M1 L1 HW1
        obtain ⟨j, qs2, rfl, hj, HR2, HN2, HM2, HC2, HW2⟩ := hrel
        have q0 := (KP.out wr HW2.out).cell 0
        have c2 := (CX.out wr HW2.out).2
        by_cases hjl : j < M
        · have hjl' : (j : Int) < (M : Int) := by omega
          have hje : j < es.length := by rw [← HM0.out]; exact hjl
          obtain ⟨b2, o2, rfl, HECL⟩ : ∃ b2 o2, ae = some ⟨b2, o2, none⟩ ∧ Hid (∀ X, Below WA.heap.size WA X → ∀ i, i < es.length → X.cell? ⟨b2, o2 + i * 4, none⟩ = some (.string (entN es i).key) ∧ X.cell? ⟨b2, o2 + i * 4 + 1, none⟩ = some (.int .i64 (entN es i).kind) ∧ X.cell? ⟨b2, o2 + i * 4 + 2, none⟩ = some (.string (entN es i).text) ∧ X.cell? ⟨b2, o2 + i * 4 + 3, none⟩ = some (.int .i64 (entN es i).num)) := by
            rcases HEA.out with q | ⟨b2, o2, rfl, q, hcl⟩
            · rw [q] at hje; simp at hje
            · exact ⟨b2, o2, rfl, hide (fun X hX i hi => by
                have hb := BA.out.trans (hX.mono BA.out.size)
                obtain ⟨z0, z1, z2, z3⟩ := hcl i hi
                exact ⟨(hb.cell q).trans z0, (hb.cell q).trans z1, (hb.cell q).trans z2, (hb.cell q).trans z3⟩)⟩
          obtain ⟨x0, x1, x2, x3⟩ := HECL.out wr HW2.out j hje
          have PE := hide (pl_ent es j hje)
          obtain ⟨e, he0⟩ : ∃ e, e = entN es j := ⟨_, rfl⟩
          rw [← he0] at x0 x1 x2 x3 PE
          clear he0
          obtain ⟨ek, en, et, em⟩ := e
          simp only [] at x0 x1 x2 x3
          obtain ⟨WB, hWB⟩ : ∃ WB, WB = wr.alloc (.cells #[.string ek, .int .i64 en, .string et, .int .i64 em] 33) := ⟨_, rfl⟩
          have BB : Hid (Below wr.heap.size wr WB) := hide (by rw [hWB]; exact (Below.refl _ _).alloc (Nat.le_refl _) _)
          have DB : Hid (Blk WB wr.heap.size #[.string ek, .int .i64 en, .string et, .int .i64 em] 33) := hide (by rw [hWB]; exact Blk.newAt _ _ rfl _ _)
          have RB := hide (HR2.out.belowB BB.out)
          have HWBA := hide (HW2.out.trans (BB.out.mono HW2.out.size))
          have hBB : Hid (B ≤ WB.heap.size) := hide (by rw [HB.out]; exact HWBA.out.size)
          have W1 := hide (with_any ek RB.out HN2.out HM2.out.1 (by have := HC2.out; omega) hBB.out)
          have DF : Hid (∀ w2, WB.grownBy w2 u3.ownBlock → Blk w2 wr.heap.size #[.string ek, .int .i64 en, .string et, .int .i64 em] 33) := hide (fun w2 hg => by
            have hlt := DB.out.lt
            have hap := blk_apart DB.out RB.out (by decide)
            have q := DB.out
            unfold Blk at *
            rw [hg.block _ hlt hap]
            exact q)
          have HWB := hide hWB.symm
          have d0 := DB.out.cell 0
          clear hWB
          go_wp2_with (simp only [HWB.out])
          refine W1.out.mono ?_
          rintro x w2 ⟨v3, qs3, rfl, hr3, hrise3, hmem3, hlen3, hnn3, hg3⟩
          have R3 := hide hr3
          have N3 := hide hnn3
          have HG3 := hide hg3
          have D3 := DF.out w2 hg3
          have HW3 := hide (WithA.below hg3 RB.out (show Below B WA WB by rw [HB.out]; exact HWBA.out) hBB.out)
          have M3 := hide (HM2.out.2.add hmem3)
          have L3 : Hid (qs3.length ≤ k * 3000 + 2 + 2 * j) := hide (by have := HC2.out; omega)
          have RI3 := hide hrise3
          have d1 := D3.cell 1
          have d2 := D3.cell 2
          clear hr3 hnn3 hg3 D3 hmem3 hlen3 hrise3 W1 DF d0 x0 x1 x2 x3
          by_cases hen : en = 1
          · subst hen
            have EL : Hid (entL ⟨ek, 1, et, em⟩ = [ek]) := hide (by unfold entL; rw [if_pos rfl])
            go_wp2_with fail
            refine ⟨⟨j + 1, qs3, by go_num, by omega, R3, N3, hide ⟨RI3.out, ?_⟩, hide (by have := L3.out; omega), hide (by have := HW3.out; rw [HB.out] at this; exact this)⟩, by simp [intOf]; omega⟩
            rw [PE.out, EL.out, ← List.append_assoc, ← List.append_assoc, List.append_assoc (textsL _)]
            exact M3.out
          · have EL : Hid (entL ⟨ek, en, et, em⟩ = [ek] ++ [et]) := hide (by unfold entL; rw [if_neg hen]; rfl)
            have hen' : (en == 1) = false := beq_eq_false_iff_ne.2 hen
            have hB2 : Hid (B ≤ w2.heap.size) := hide (Nat.le_trans hBB.out HG3.out.size)
            have W2 := hide (with_any et R3.out N3.out RI3.out (by have := L3.out; omega) hB2.out)
            clear hen
            go_wp2_with fail
            refine W2.out.mono ?_
            rintro x w3 ⟨v4, qs4, rfl, hr4, hrise4, hmem4, hlen4, hnn4, hg4⟩
            have HW4 := hide (WithA.below hg4 R3.out HW3.out hB2.out)
            have M4 := hide (M3.out.add hmem4)
            have L4 : Hid (qs4.length ≤ k * 3000 + 3 + 2 * j) := hide (by have := L3.out; omega)
            have R4 := hide hr4
            have N4 := hide hnn4
            have RI4 := hide hrise4
            clear hr4 hnn4 hg4 hmem4 hlen4 hrise4 W2 d1 d2
            go_wp2
            refine ⟨⟨j + 1, qs4, by go_num, by omega, R4, N4, hide ⟨RI4.out, ?_⟩, hide (by have := L4.out; omega), hide (by have := HW4.out; rw [HB.out] at this; exact this)⟩, by simp [intOf]; omega⟩
            rw [PE.out, EL.out, ← List.append_assoc, ← List.append_assoc, ← List.append_assoc, List.append_assoc (textsL _)]
            exact M4.out
        · obtain rfl : j = M := by omega
          have hjl' : ¬ (j : Int) < (j : Int) := by omega
          clear hjl
          go_wp2
          refine ⟨⟨k + 1, qs2, by go_num, by omega, HR2, HN2, hide ⟨HM2.out.1, ?_⟩, hide (by have := HC2.out; omega), HW2⟩, by simp [intOf]; omega⟩
          rw [TX.out]
          have := HM2.out.2
          rw [HM0.out, List.take_length] at this
          exact this
    · obtain rfl : k = L := by omega
      have hkl' : ¬ (k : Int) < (k : Int) := by omega
      have HP : Hid (qs = poolL (textsL ts)) := hide (by
        have := HM.out.2.pool HM.out.1
        rw [HL.out, List.take_length] at this
        exact this)
      clear hkl HM HC
      go_wp2
      go_ret
      exact ⟨_, rfl, by rw [← HP.out]; exact RowS.base HR.out HBw.out, HN.out, BA.out.trans (HW.out.mono BA.out.size)⟩

end Go.Proofs.YtihnakblcfealaaGreatDoor

namespace Go.Proofs.YtihnakblcfealaaGreatDoor
open Go.RowKit

theorem countsN (ts : List Tab) (h : ¬ (1 ≤ ts.length ∧ ts.length ≤ 16)) : checkT ts = 121 := by
  unfold checkT countsOk
  rw [decide_eq_false h, Bool.and_false, if_pos rfl]
theorem countsX (ts : List Tab) (k : Nat) (hk : k < ts.length) (h : 1024 < (tabN ts k).ents.length) : checkT ts = 121 := by
  have : countsOk ts = false := by
    unfold countsOk
    rw [all_stopT _ ts k (tabN ts k) (tabN_some hk) (decide_eq_false (by omega)), Bool.false_and]
  unfold checkT
  rw [if_pos this]
theorem countsY (ts : List Tab) (h1 : 1 ≤ ts.length) (h2 : ts.length ≤ 16) (h : ∀ k, k < ts.length → (tabN ts k).ents.length ≤ 1024) : countsOk ts = true ∧ ∀ k, (tabN ts k).ents.length ≤ 1024 := by
  have ha : ∀ k, (tabN ts k).ents.length ≤ 1024 := fun k => by
    by_cases hk : k < ts.length
    · exact h k hk
    · have : tabN ts k = Tab.zero := by unfold tabN; rw [List.getElem?_eq_none (by omega)]; rfl
      rw [this]
      exact Nat.zero_le _
  refine ⟨?_, ha⟩
  unfold countsOk
  rw [decide_eq_true (show 1 ≤ ts.length ∧ ts.length ≤ 16 from ⟨h1, h2⟩), Bool.and_true, List.all_eq_true]
  intro t ht
  obtain ⟨k, _, rfl⟩ := mem_tabN ht
  exact decide_eq_true (ha k)

set_option maxRecDepth 100000 in
set_option maxHeartbeats 4000000 in
theorem rCheck_any {w : World} {v : Value} {ts : List Tab} (h : TSl w v ts) (hl : ts.length ≤ 4398046511104) (hz : SzT ts) :
    Calls Tryz.prog 35 #[.agg #[v]] w fun e w' => e = .returned (.int .i64 (checkT ts : Int)) ∧ Below w.heap.size w w' := by
  obtain ⟨WA, hWA⟩ : ∃ WA, WA = w.alloc (.cells #[v] 24) := ⟨_, rfl⟩
  have BA : Hid (Below w.heap.size w WA) := hide (by rw [hWA]; exact (Below.refl _ _).alloc (Nat.le_refl _) _)
  have Q1 : Hid (Blk WA w.heap.size #[v] 24) := hide (by rw [hWA]; exact Blk.newAt _ _ rfl _ _)
  have HWA := hide hWA.symm
  have SA := hide (h.below BA.out)
  have HZ := hide hz
  have TF : Hid (∀ (_ : ts.length ≤ 16) (_ : ∀ k, (tabN ts k).ents.length ≤ 1024) X (_ : Below WA.heap.size WA X) k (_ : k < ts.length), Calls Tryz.prog 64 #[v, .int .i64 (k : Int)] X fun e w' => e = .returned (.int .i64 (tabE ts k : Int)) ∧ Below X.heap.size X w') := hide (fun h1 h2 X hX k hk => rtable_any k (SA.out.below hX) hk h1 HZ.out (h2 k))
  have PF : Hid (∀ (_ : ts.length ≤ 16) (_ : ∀ k, (tabN ts k).ents.length ≤ 1024) X (_ : Below WA.heap.size WA X), Calls Tryz.prog 36 #[.agg #[v]] X fun e w' => ∃ u, e = .returned u ∧ RowS w' X.heap.size u (poolL (textsL ts)) ∧ u ≠ .slice none 0 0 ∧ Below X.heap.size X w') := hide (fun h1 h2 X hX => pool_any (SA.out.below hX) h1 h2)
  obtain ⟨ao, cap, rfl, hcap, hat⟩ := h
  obtain ⟨L, hL⟩ : ∃ L, L = ts.length := ⟨_, rfl⟩
  have HL := hide hL
  have HAT := hide hat
  rw [← hL] at hcap hl TF PF Q1 HWA SA ⊢
  have KP : Hid (∀ X, Below WA.heap.size WA X → Blk X w.heap.size #[.slice ao L cap] 24) := hide (fun X hX => Q1.out.below hX Q1.out.lt)
  have q0 := Q1.out.cell 0
  clear hWA hz hat hL
  by_cases hL1 : L < 1
  · have EE := hide (countsN ts (by have := HL.out; omega))
    obtain rfl : L = 0 := by omega
    go_enter Tryz.func35, Tryz.ntmps35
    go_wp2_with (simp only [HWA.out])
    go_ret
    exact ⟨by rw [EE.out]; rfl, BA.out⟩
  by_cases hL2 : 16 < L
  · have EE := hide (countsN ts (by have := HL.out; omega))
    have hL1' : ¬ (L : Int) < 1 := by omega
    have hL2' : (16 : Int) < (L : Int) := by omega
    clear hL1 hL2
    go_enter Tryz.func35, Tryz.ntmps35
    go_wp2_with (simp only [HWA.out])
    go_ret
    exact ⟨by rw [EE.out]; rfl, BA.out⟩
  have hL1' : ¬ (L : Int) < 1 := by omega
  have hL2' : ¬ (16 : Int) < (L : Int) := by omega
  have hl16 : L ≤ 16 := by omega
  have HL1 : Hid (1 ≤ ts.length) := hide (by have := HL.out; omega)
  obtain ⟨b, o, rfl, HBB, HCL⟩ : ∃ b o, ao = some ⟨b, o, none⟩ ∧ Hid (b < w.heap.size) ∧ Hid (∀ i, i < ts.length → TabAt w b o i (tabN ts i)) := by
    rcases HAT.out with q | ⟨b, o, rfl, q, hcl⟩
    · have := HL1.out; rw [q] at this; simp at this
    · exact ⟨b, o, rfl, hide q, hide hcl⟩
  clear hL1 hL2
  go_enter Tryz.func35, Tryz.ntmps35
  go_wp2_with (simp only [HWA.out])
  go_loopw [3] (fun y wr => ∃ k : Nat, k ≤ L ∧ y = .int .i64 (k : Int) ∧ Hid (∀ i, i < k → (tabN ts i).ents.length ≤ 1024) ∧ WA = wr) (fun y _ => L - (intOf y).toNat)
  case atStart => exact ⟨0, Nat.zero_le _, rfl, hide (fun i hi => by omega), rfl⟩
  case round =>
    obtain ⟨k, hk, rfl, HK, rfl⟩ := hrel
    by_cases hkl : k < L
    · have hkl' : (k : Int) < (L : Int) := by omega
      have hkt : k < ts.length := by rw [← HL.out]; exact hkl
      obtain ⟨d0, d1, ve, d2, hes⟩ := (HCL.out k hkt).below HBB.out BA.out
      obtain ⟨ae, ce, rfl, hce, hea⟩ := hes
      have CX := hide (countsX ts k hkt)
      have HLE : Hid ((tabN ts k).ents.length = (tabN ts k).ents.length) := hide rfl
      obtain ⟨M, hM⟩ : ∃ M, M = (tabN ts k).ents.length := ⟨_, rfl⟩
      rw [← hM] at d2 CX hce
      have HM := hide hM
      clear hM hea d0 d1 hkt HLE
      by_cases hm : 1024 < M
      · have EE := hide (CX.out hm)
        have hm' : (1024 : Int) < (M : Int) := by omega
        clear hm CX
        go_wp2
        go_ret
        exact ⟨by rw [EE.out]; rfl, BA.out⟩
      · have hm' : ¬ (1024 : Int) < (M : Int) := by omega
        have HN : Hid (∀ i, i < k + 1 → (tabN ts i).ents.length ≤ 1024) := hide (fun i hi => by
          rcases Nat.lt_or_ge i k with q | q
          · exact HK.out i q
          · obtain rfl : i = k := by omega
            rw [← HM.out]
            omega)
        clear hm CX HK
        go_wp2
        exact ⟨⟨k + 1, by omega, by go_num, HN, trivial⟩, by simp [intOf]; omega⟩
    · obtain rfl : k = L := by omega
      have hkl' : ¬ (k : Int) < (k : Int) := by omega
      obtain ⟨hc1, hc2⟩ := countsY ts HL1.out (by rw [← HL.out]; exact hl16) (fun i hi => HK.out i (by rw [HL.out]; exact hi))
      have CT : Hid (checkT ts = if tabsE ts k 0 ≠ 0 then tabsE ts k 0 else if 4096 < poolS (textsL ts) then 121 else 0) := hide (by
        unfold checkT
        rw [if_neg (by rw [hc1]; decide), ← HL.out])
      have TG := hide (TF.out hl16 hc2)
      have PG := hide (PF.out hl16 hc2)
      clear TF PF hkl HK hc1 hc2
      obtain ⟨R, hR⟩ : ∃ R, R = tabsE ts k 0 := ⟨_, rfl⟩
      rw [← hR] at CT
      have HR := hide hR
      clear hR
      go_wp2
      go_loopw [4] (fun y wr => ∃ j : Nat, j ≤ k ∧ y = .int .i64 (j : Int) ∧ Hid (R = tabsE ts (k - j) j) ∧ Hid (Below WA.heap.size WA wr)) (fun y _ => k - (intOf y).toNat)
      case atStart => exact ⟨0, Nat.zero_le _, rfl, hide (by rw [HR.out, Nat.sub_zero]), hide (Below.refl _ _)⟩
      case round =>
        obtain ⟨j, hj, rfl, HJ, HW⟩ := hrel
        clear q0
        have q0 := (KP.out wr HW.out).cell 0
        by_cases hjl : j < k
        · have hjl' : (j : Int) < (k : Int) := by omega
          have TJ := hide (TG.out wr HW.out j hjl)
          have ST : Hid (R = if tabE ts j ≠ 0 then tabE ts j else tabsE ts (k - (j + 1)) (j + 1)) := hide (by
            rw [HJ.out, show k - j = (k - (j + 1)) + 1 by omega]
            rfl)
          generalize tabE ts j = E at *
          by_cases hE : E = 0
          · subst hE
            have HN : Hid (R = tabsE ts (k - (j + 1)) (j + 1)) := hide (by rw [ST.out, if_neg (by omega)])
            rw [show ((0 : Nat) : Int) = 0 from rfl] at TJ
            clear ST HJ
            go_wp2_with fail
            refine TJ.out.mono ?_
            rintro x w1 ⟨rfl, hb1⟩
            have HW1 := hide (HW.out.trans (hb1.mono HW.out.size))
            clear hb1 TJ
            go_wp2
            exact ⟨⟨j + 1, by omega, by go_num, HN, HW1⟩, by simp [intOf]; omega⟩
          · have EE : Hid (checkT ts = E) := hide (by
              have h1 : R = E := by rw [ST.out, if_pos hE]
              rw [CT.out, if_pos (by rw [h1]; exact hE), h1])
            have hE' : ((E : Int) == 0) = false := beq_eq_false_iff_ne.2 (by omega)
            have hE2 : ((E : Int) != 0) = true := by rw [bne, hE']; rfl
            clear ST HJ hE
            go_wp2_with fail
            refine TJ.out.mono ?_
            rintro x w1 ⟨rfl, hb1⟩
            have HW1 := hide (BA.out.trans ((HW.out.trans (hb1.mono HW.out.size)).mono BA.out.size))
            clear hb1 TJ
            go_wp2
            go_ret
            exact ⟨by rw [EE.out]; rfl, HW1.out⟩
        · obtain rfl : j = k := by omega
          have hjl' : ¬ (j : Int) < (j : Int) := by omega
          have hR0 : R = 0 := by rw [HJ.out, Nat.sub_self]; rfl
          subst hR0
          have P1 := hide (PG.out wr HW.out)
          have CT2 : Hid (checkT ts = if 4096 < (poolL (textsL ts)).length then 121 else 0) := hide (by rw [CT.out, if_neg (by decide), pool_len])
          obtain ⟨N, hN⟩ : ∃ N, N = (poolL (textsL ts)).length := ⟨_, rfl⟩
          rw [← hN] at CT2
          have HN := hide hN
          clear HJ hjl CT hN HR
          go_wp2_with fail
          refine P1.out.mono ?_
          rintro x w1 ⟨u, rfl, hr, hnn, hb1⟩
          have HW1 := hide (BA.out.trans ((HW.out.trans (hb1.mono HW.out.size)).mono BA.out.size))
          obtain ⟨g, cu, rfl⟩ : ∃ g cu, u = .slice (some ⟨g, 0, none⟩) N cu := by
            rcases hr.2 with ⟨q, _⟩ | ⟨g, cu, cur, q, _⟩
            · exact absurd q hnn
            · exact ⟨g, cu, by rw [q, HN.out]⟩
          clear hb1 P1 hr hnn
          by_cases h4 : 4096 < N
          · have EE : Hid (checkT ts = 121) := hide (by rw [CT2.out, if_pos h4])
            have h4' : (4096 : Int) < (N : Int) := by omega
            clear CT2 h4
            go_wp2
            go_ret
            exact ⟨by rw [EE.out]; rfl, HW1.out⟩
          · have EE : Hid (checkT ts = 0) := hide (by rw [CT2.out, if_neg h4])
            have h4' : ¬ (4096 : Int) < (N : Int) := by omega
            clear CT2 h4
            go_wp2
            go_ret
            exact ⟨by rw [EE.out]; rfl, HW1.out⟩

end Go.Proofs.YtihnakblcfealaaGreatDoor
