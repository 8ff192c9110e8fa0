/-
  What quipuref12's with answers: a rising list, with one text more, if it isn't there.
  What the reference's within, Rune and Runes do.
  What the reference's Rune does.
  What the reference's Rune does.
  What the reference's Rune does.
  What the reference's Rune does.
  What the reference's Runes, Put and PutText do.
-/
import Derived.Test.YtobmdifledegbaaGreatDoorCB4
import Derived.Test.YtobmdifledegbaaGreatDoorCB6
import Derived.Deep.AppendLies
import Derived.Test.YtobmdifledegbaaGreatDoorCB2
import Derived.Test.YtobmdifledegbaaGreatDoorCB3
namespace Go.Proofs.YtobmdifledegbaaGreatDoor
open Go.RowKit

def WithA (B : Nat) (ps : List (List UInt8)) (s : List UInt8) (v : Value) (w : World) (e : Ending) (w' : World) : Prop :=
  ∃ v' qs, e = .returned v' ∧ RowS w' B v' qs ∧ Rise qs ∧ (∀ x, x ∈ qs ↔ x ∈ ps ∨ x = s) ∧ qs.length ≤ ps.length + 1 ∧ v' ≠ .slice none 0 0 ∧ w.grownBy w' v.ownBlock

theorem take_step (ps : List (List UInt8)) (c : List UInt8) (i : Nat) (hi : i < ps.length) :
    (ps.take (i + 1) ++ c :: ps.drop (i + 1)).set (i + 1) (atP ps i) = ps.take i ++ atP ps i :: ps.drop i := by
  have e1 : ps.take (i + 1) = ps.take i ++ [atP ps i] := by rw [List.take_add_one, atP_get hi]; rfl
  have e2 : ps.drop i = atP ps i :: ps.drop (i + 1) := by
    rw [List.drop_eq_getElem_cons hi]
    unfold atP
    rw [List.getElem?_eq_getElem hi]
    rfl
  rw [e2, List.set_append_right _ _ (by rw [List.length_take]; omega), e1]
  have : i + 1 - (ps.take i ++ [atP ps i]).length = 0 := by
    rw [List.length_append, List.length_take]
    simp
    omega
  rw [this]
  simp

theorem grown_set {w w' : World} {g g2 j : Nat} (h : w.grownBy w' (some g)) (h2 : g2 = g ∨ w.heap.size ≤ g2) (u : Value) : w.grownBy (w'.setCell ⟨g2, j, none⟩ u) (some g) := by
  refine ⟨h.os, h.tape, h.output, by rw [show (w'.setCell ⟨g2, j, none⟩ u).heap.size = w'.heap.size by simp [World.setCell]]; exact h.size, fun k hk hkr => ?_⟩
  have hne : g2 ≠ k := by
    rintro rfl
    rcases h2 with q | q
    · exact hkr (by rw [q])
    · omega
  rw [← h.block k hk hkr]
  simp [World.setCell, Array.getElem?_modify, hne]

set_option maxRecDepth 100000 in
set_option maxHeartbeats 4000000 in
theorem with_any {w : World} {B : Nat} {v : Value} {ps : List (List UInt8)} (s : ByteArray) (h : RowS w B v ps) (hnn : v ≠ .slice none 0 0) (hr : Rise ps) (hn : ps.length ≤ 4398046511104) (hB : B ≤ w.heap.size) :
    Calls Tryz.prog 48 #[v, .string s] w (WithA B ps (bys s) v w) := by
  obtain ⟨i0, hi, hz0, hz1, hz2⟩ := info_parts infoS
  have HP := hide (place_any s (TxS.of_row h) hr hn)
  have HH := hide (show w.ownsRow B 9 1 v ps.length (ps.map encStr) from h)
  have HR := hide hr
  have hv : ∃ g cap, v = .slice (some ⟨g, 0, none⟩) ps.length cap := by
    rcases h.2 with ⟨q, _⟩ | ⟨g, cap, cur, q, _⟩
    · exact absurd q hnn
    · exact ⟨g, cap, q⟩
  obtain ⟨g, cap, rfl⟩ := hv
  obtain ⟨L, hL⟩ : ∃ L, L = ps.length := ⟨_, rfl⟩
  have HL := hide hL
  rw [← hL] at hn HP HH ⊢
  clear h hr hL
  go_enter Tryz.func48, Tryz.ntmps48
  go_wp2_with fail
  refine HP.out.mono ?_
  rintro e w1 ⟨⟨p, hp, rfl⟩, hb⟩
  have HPP := hide hp
  have HB1 := hide hb
  have H1 := hide (own_belowB HH.out hb)
  have hpL : p ≤ L := by rw [HL.out]; exact hp.1
  cases hA : isAt ps (bys s) p with
  | true =>
    have HM := hide ((PosL.mem HR.out hp).1 hA)
    clear hp hb HP
    go_wp2
    go_ret
    refine ⟨.slice (some ⟨g, 0, none⟩) L cap, ps, rfl, by unfold RowS; rw [← HL.out]; exact H1.out, HR.out, fun x => ⟨.inl, fun q => ?_⟩, Nat.le_succ _, (fun e => by cases e), ⟨HB1.out.os, HB1.out.tape, HB1.out.output, HB1.out.size, fun k hk _ => HB1.out.block k hk⟩⟩
    rcases q with q | q
    · exact q
    · rw [q]; exact HM.out
  | false =>
    have HI := hide (insP_rise HR.out hp hA)
    have HIL : Hid ((insP ps (bys s) p).length = L + 1) := hide (by rw [insP_len hp.1, HL.out])
    have NEW : Hid (∀ j u, [encStr []][j]? = some u → (w1.alloc (.cells #[.string ⟨#[]⟩] 9)).cell? ((⟨w1.heap.size, 0, none⟩ : Addr).add j) = some u) := hide (fun j u hj => by
      have h : Blk (w1.alloc (.cells #[.string ⟨#[]⟩] 9)) w1.heap.size #[.string ⟨#[]⟩] 9 := Blk.newAt w1 w1.heap.size rfl _ _
      rw [Addr.add_lit, Nat.zero_add, h.cell j]
      match j, hj with
      | 0, hj => exact hj)
    have ONE : Hid (∀ u ∈ [encStr []], u.oneCell' = true) := hide (fun u hu => by
      simp only [List.mem_cons, List.not_mem_nil, or_false] at hu
      subst hu
      rfl)
    have OW := hide (own_belowB H1.out ((Below.refl w1.heap.size w1).alloc (Nat.le_refl _) (.cells #[.string ⟨#[]⟩] 9)))
    have HBA : Hid (w.grownBy (w1.alloc (.cells #[.string ⟨#[]⟩] 9)) (some g)) := hide (by
      have hz := HB1.out.alloc HB1.out.size (.cells #[.string ⟨#[]⟩] 9)
      exact ⟨hz.os, hz.tape, hz.output, hz.size, fun k hk _ => hz.block k hk⟩)
    have hBs : Hid (B ≤ (w1.alloc (.cells #[.string ⟨#[]⟩] 9)).heap.size) := hide (by show B ≤ (w1.heap.push _).size; rw [Array.size_push]; have := HB1.out.size; omega)
    have hgw := hide (World.ownsRow.lt HH.out g rfl).2
    clear hp hb HP
    go_wp2_with (at_builtin; refine wpList_append_lies _ rfl _ _ 43 rfl B 9 i0 (.string ⟨#[]⟩) 1 16 Tryz.underlying43 hi hz0 hz1 hz2 rfl (by decide) (.slice (some ⟨g, 0, none⟩) L cap) L (ps.map encStr) rfl OW.out ⟨w1.heap.size, 0, none⟩ 1 1 [encStr []] rfl rfl NEW.out ONE.out (by decide) (by unfold maxLen; omega) (by omega) hBs.out _ rfl ?_; intro g2 c2 w2 hown2 hgr2 hat2 hlt2)
    have HG2 : Hid (g2 = g ∨ w.heap.size ≤ g2) := hide (by
      rcases hat2 with q | q
      · left; simpa [Value.ownBlock] using q.symm
      · right
        rw [q]
        show w.heap.size ≤ (w1.heap.push _).size
        rw [Array.size_push]
        have := HB1.out.size
        omega)
    have GR : Hid (w.grownBy w2 (some g)) := hide (by
      have a := HBA.out
      refine ⟨hgr2.os.trans a.os, hgr2.tape.trans a.tape, hgr2.output.trans a.output, Nat.le_trans a.size hgr2.size, fun k hk hkr => ?_⟩
      rw [hgr2.block k (Nat.lt_of_lt_of_le hk a.size) (by simpa [Value.ownBlock] using hkr)]
      exact a.block k hk hkr)
    have O2 : Hid (w2.ownsRow B 9 1 (.slice (some ⟨g2, 0, none⟩) (L + 1) c2) (L + 1) ((ps.take L ++ [] :: ps.drop L).map encStr)) := hide (by
      have e : (ps.take L ++ [] :: ps.drop L).map encStr = ps.map encStr ++ [encStr []] := by
        rw [HL.out, List.take_length, List.drop_length, List.map_append]
        rfl
      rw [e]
      exact hown2)
    clear hown2 hgr2 hat2 hlt2 OW NEW HBA hBs hgw HB1 H1 HH
    go_wp2
    go_loopw [7] (fun x wr => ∃ (i : Nat) (c : List UInt8), x = .int .i64 (i : Int) ∧ p ≤ i ∧ i ≤ L ∧ Hid (wr.ownsRow B 9 1 (.slice (some ⟨g2, 0, none⟩) (L + 1) c2) (L + 1) ((ps.take i ++ c :: ps.drop i).map encStr)) ∧ Hid (w.grownBy wr (some g))) (fun x _ => (intOf x).toNat)
    case atStart => exact ⟨L, [], rfl, hpL, Nat.le_refl _, O2, GR⟩
    case round =>
      obtain ⟨i, c, rfl, hpi, hiL, HO, HG⟩ := hrel
      clear O2 GR
      by_cases hlt : p < i
      · obtain ⟨j, rfl⟩ : ∃ j, i = j + 1 := ⟨i - 1, by omega⟩
        have hjl : j < ps.length := by rw [← HL.out]; omega
        have hLEN : ((ps.take (j + 1) ++ c :: ps.drop (j + 1)).map encStr).length = L + 1 := by rw [List.length_map, List.length_append, List.length_cons, List.length_take, List.length_drop, ← HL.out]; omega
        have c0 : wr.cell? ⟨g2, j, none⟩ = some (.string ⟨(atP ps j).toArray⟩) := by
          rw [World.ownsRow.cellAt HO.out j (by omega), List.getElem?_map, List.getElem?_append_left (by rw [List.length_take]; omega), List.getElem?_take_of_lt (Nat.lt_succ_self j), atP_get hjl]
          rfl
        have c1 : wr.cell? ⟨g2, j + 1, none⟩ = some (encStr c) := by
          rw [World.ownsRow.cellAt HO.out (j + 1) (by omega), List.getElem?_map, List.getElem?_append_right (by rw [List.length_take]; omega), List.length_take, Nat.min_eq_left (by omega), Nat.sub_self]
          rfl
        have f1 := World.ownsRow.frozenAt HO.out (j + 1)
        have HO2 := hide (World.ownsRow.stored HO.out (j + 1) (.string ⟨(atP ps j).toArray⟩)).1
        have HL2 : Hid (((ps.take (j + 1) ++ c :: ps.drop (j + 1)).map encStr).set (j + 1) (.string ⟨(atP ps j).toArray⟩) = (ps.take j ++ atP ps j :: ps.drop j).map encStr) := hide (by
          rw [show Value.string ⟨(atP ps j).toArray⟩ = encStr (atP ps j) from rfl, ← List.map_set, take_step ps c j hjl])
        have HG3 := hide (grown_set (j := j + 1) HG.out HG2.out (.string ⟨(atP ps j).toArray⟩))
        have hj1 : (p : Int) < (j : Int) + 1 := by omega
        have hj2 : (j : Int) < (L : Int) + 1 := by omega
        have hj3 : (j : Int) + 1 < (L : Int) + 1 := by omega
        have hj4 : (j : Int) < 4398046511104 := by omega
        obtain ⟨t, ht⟩ : ∃ t : ByteArray, t = ⟨(atP ps j).toArray⟩ := ⟨_, rfl⟩
        rw [← ht] at c0 HO2 HL2 HG3
        clear ht hjl hLEN hlt HO HG
        rw [show ((j + 1 : Nat) : Int) = (j : Int) + 1 from rfl]
        go_wp2
        exact ⟨⟨j, atP ps j, by go_num, by omega, by omega, hide (by rw [← HL2.out]; exact HO2.out), HG3⟩, by simp [intOf]⟩
      · obtain rfl : p = i := by omega
        have hlt' : ¬ (p : Int) < (p : Int) := by omega
        have hLEN : ((ps.take p ++ c :: ps.drop p).map encStr).length = L + 1 := by rw [List.length_map, List.length_append, List.length_cons, List.length_take, List.length_drop, ← HL.out]; omega
        have c1 : wr.cell? ⟨g2, p, none⟩ = some (encStr c) := by
          rw [World.ownsRow.cellAt HO.out p (by omega), List.getElem?_map, List.getElem?_append_right (by rw [List.length_take]; omega), List.length_take, Nat.min_eq_left (by rw [← HL.out]; omega), Nat.sub_self]
          rfl
        have f1 := World.ownsRow.frozenAt HO.out p
        have HO2 := hide (World.ownsRow.stored HO.out p (.string s)).1
        have HL2 : Hid (((ps.take p ++ c :: ps.drop p).map encStr).set p (.string s) = (insP ps (bys s) p).map encStr) := hide (by
          rw [show Value.string s = encStr (bys s) from rfl, ← List.map_set]
          unfold insP
          rw [List.set_append_right _ _ (by rw [List.length_take]; omega), List.length_take, Nat.min_eq_left (by rw [← HL.out]; omega), Nat.sub_self]
          rfl)
        have HG3 := hide (grown_set (j := p) HG.out HG2.out (.string s))
        have hj2 : (p : Int) < (L : Int) + 1 := by omega
        clear hLEN hlt HO HG
        go_wp2
        go_ret
        refine ⟨.slice (some ⟨g2, 0, none⟩) (L + 1) c2, insP ps (bys s) p, rfl, ?_, HI.out, insP_mem, by rw [HIL.out, HL.out]; exact Nat.le_refl _, (fun e => by cases e), HG3.out⟩
        unfold RowS
        rw [HIL.out, ← HL2.out]
        exact HO2.out

end Go.Proofs.YtobmdifledegbaaGreatDoor

namespace Go.Proofs.YtobmdifledegbaaGreatDoor
open Go.RowKit Go.Lib

theorem byB_byt (l : List UInt8) (k : Nat) : byB l k = byt l k := by
  unfold byB byt
  rw [List.getD]
  cases l[k]? <;> rfl

theorem runeN_asc (n b0 b1 b2 b3 : Nat) (hn : 1 ≤ n) (h : b0 < 128) : runeN n b0 b1 b2 b3 = 1 := by
  unfold runeN
  rw [if_neg (by omega), if_pos h]
theorem runeN_hi (n b0 b1 b2 b3 : Nat) (hn : 1 ≤ n) (h : 128 ≤ b0) : runeN n b0 b1 b2 b3 = (checkN n b1 b2 b3 (Lib.firstT b0 % 8) (accLo (Lib.firstT b0 / 16)) (accHi (Lib.firstT b0 / 16))).getD 0 := by
  unfold runeN
  rw [if_neg (by omega), if_neg (by omega)]

theorem firstT_C2 (b0 : Nat) (h : 194 ≤ b0 ∧ b0 ≤ 223) : Lib.firstT b0 = 2 := by
  unfold Lib.firstT
  repeat' split
  all_goals first | rfl | (exfalso; omega)
theorem runeN_C2 (n b0 b1 b2 b3 : Nat) (hn : 1 ≤ n) (h : 194 ≤ b0 ∧ b0 ≤ 223) : runeN n b0 b1 b2 b3 = if n < 2 ∨ b1 < 128 ∨ 191 < b1 then 0 else 2 := by
  rw [runeN_hi n b0 b1 b2 b3 hn (by omega), firstT_C2 b0 h]
  exact checkN_two n b1 b2 b3 128 191

theorem firstT_E0 (b0 : Nat) (h : b0 = 224) : Lib.firstT b0 = 19 := by
  unfold Lib.firstT
  repeat' split
  all_goals first | rfl | (exfalso; omega)
theorem runeN_E0 (n b0 b1 b2 b3 : Nat) (hn : 1 ≤ n) (h : b0 = 224) : runeN n b0 b1 b2 b3 = if n < 3 ∨ b1 < 160 ∨ 191 < b1 ∨ b2 < 128 ∨ 191 < b2 then 0 else 3 := by
  rw [runeN_hi n b0 b1 b2 b3 hn (by omega), firstT_E0 b0 h]
  exact checkN_three n b1 b2 b3 160 191

theorem firstT_E1 (b0 : Nat) (h : 225 ≤ b0 ∧ b0 ≤ 236 ∨ b0 = 238 ∨ b0 = 239) : Lib.firstT b0 = 3 := by
  unfold Lib.firstT
  repeat' split
  all_goals first | rfl | (exfalso; omega)
theorem runeN_E1 (n b0 b1 b2 b3 : Nat) (hn : 1 ≤ n) (h : 225 ≤ b0 ∧ b0 ≤ 236 ∨ b0 = 238 ∨ b0 = 239) : runeN n b0 b1 b2 b3 = if n < 3 ∨ b1 < 128 ∨ 191 < b1 ∨ b2 < 128 ∨ 191 < b2 then 0 else 3 := by
  rw [runeN_hi n b0 b1 b2 b3 hn (by omega), firstT_E1 b0 h]
  exact checkN_three n b1 b2 b3 128 191

theorem firstT_ED (b0 : Nat) (h : b0 = 237) : Lib.firstT b0 = 35 := by
  unfold Lib.firstT
  repeat' split
  all_goals first | rfl | (exfalso; omega)
theorem runeN_ED (n b0 b1 b2 b3 : Nat) (hn : 1 ≤ n) (h : b0 = 237) : runeN n b0 b1 b2 b3 = if n < 3 ∨ b1 < 128 ∨ 159 < b1 ∨ b2 < 128 ∨ 191 < b2 then 0 else 3 := by
  rw [runeN_hi n b0 b1 b2 b3 hn (by omega), firstT_ED b0 h]
  exact checkN_three n b1 b2 b3 128 159

theorem firstT_F0 (b0 : Nat) (h : b0 = 240) : Lib.firstT b0 = 52 := by
  unfold Lib.firstT
  repeat' split
  all_goals first | rfl | (exfalso; omega)
theorem runeN_F0 (n b0 b1 b2 b3 : Nat) (hn : 1 ≤ n) (h : b0 = 240) : runeN n b0 b1 b2 b3 = if n < 4 ∨ b1 < 144 ∨ 191 < b1 ∨ b2 < 128 ∨ 191 < b2 ∨ b3 < 128 ∨ 191 < b3 then 0 else 4 := by
  rw [runeN_hi n b0 b1 b2 b3 hn (by omega), firstT_F0 b0 h]
  exact checkN_four n b1 b2 b3 144 191

theorem firstT_F1 (b0 : Nat) (h : 241 ≤ b0 ∧ b0 ≤ 243) : Lib.firstT b0 = 4 := by
  unfold Lib.firstT
  repeat' split
  all_goals first | rfl | (exfalso; omega)
theorem runeN_F1 (n b0 b1 b2 b3 : Nat) (hn : 1 ≤ n) (h : 241 ≤ b0 ∧ b0 ≤ 243) : runeN n b0 b1 b2 b3 = if n < 4 ∨ b1 < 128 ∨ 191 < b1 ∨ b2 < 128 ∨ 191 < b2 ∨ b3 < 128 ∨ 191 < b3 then 0 else 4 := by
  rw [runeN_hi n b0 b1 b2 b3 hn (by omega), firstT_F1 b0 h]
  exact checkN_four n b1 b2 b3 128 191

theorem firstT_F4 (b0 : Nat) (h : b0 = 244) : Lib.firstT b0 = 68 := by
  unfold Lib.firstT
  repeat' split
  all_goals first | rfl | (exfalso; omega)
theorem runeN_F4 (n b0 b1 b2 b3 : Nat) (hn : 1 ≤ n) (h : b0 = 244) : runeN n b0 b1 b2 b3 = if n < 4 ∨ b1 < 128 ∨ 143 < b1 ∨ b2 < 128 ∨ 191 < b2 ∨ b3 < 128 ∨ 191 < b3 then 0 else 4 := by
  rw [runeN_hi n b0 b1 b2 b3 hn (by omega), firstT_F4 b0 h]
  exact checkN_four n b1 b2 b3 128 143

theorem firstT_No (b0 : Nat) (h : 128 ≤ b0 ∧ b0 < 194 ∨ 244 < b0) : Lib.firstT b0 = 241 := by
  unfold Lib.firstT
  repeat' split
  all_goals first | rfl | (exfalso; omega)
theorem runeN_No (n b0 b1 b2 b3 : Nat) (hn : 1 ≤ n) (h : 128 ≤ b0 ∧ b0 < 194 ∨ 244 < b0) : runeN n b0 b1 b2 b3 = 0 := by
  rw [runeN_hi n b0 b1 b2 b3 hn (by omega), firstT_No b0 h]
  exact checkN_else _ _ _ _ _ _ _ (by decide) (by decide) (by decide)

def inB (l : List UInt8) (p lo hi : Nat) : Bool := decide (p < l.length ∧ lo ≤ byt l p ∧ byt l p ≤ hi)

set_option maxHeartbeats 1000000 in
theorem within_any (s : ByteArray) (p lo hi : Nat) (w : World) : Calls Tryz.prog 107 #[.string s, .int .i64 (p : Int), .int .i64 (lo : Int), .int .i64 (hi : Int)] w fun e w' => e = .returned (.bool (inB (bys s) p lo hi)) ∧ w = w' := by
  have HI : Hid (inB (bys s) p lo hi = decide (p < s.size ∧ lo ≤ byt (bys s) p ∧ byt (bys s) p ≤ hi)) := by
    show inB (bys s) p lo hi = _
    unfold inB
    rw [bys_len]
  rw [HI.out]
  clear HI
  by_cases h1 : p < s.size
  · have h1' : (p : Int) < (s.size : Int) := by omega
    have hg : ∀ h : p < s.size, s[p].toNat = byt (bys s) p := fun h => byt_get s p h
    have hb2 := byt_lt (bys s) p
    obtain ⟨b, hbb⟩ : ∃ b, b = byt (bys s) p := ⟨_, rfl⟩
    rw [← hbb] at hg hb2 ⊢
    clear hbb
    by_cases h2 : lo ≤ b
    · have h2' : (lo : Int) ≤ (b : Int) := by omega
      by_cases h3 : b ≤ hi
      · have h3' : (b : Int) ≤ (hi : Int) := by omega
        rw [decide_eq_true (by omega)]
        go_enter Tryz.func107, Tryz.ntmps107
        go_wp2
        go_ret
        exact ⟨rfl, rfl⟩
      · have h3' : ¬ (b : Int) ≤ (hi : Int) := by omega
        rw [decide_eq_false (by omega)]
        go_enter Tryz.func107, Tryz.ntmps107
        go_wp2
        go_ret
        exact ⟨rfl, rfl⟩
    · have h2' : ¬ (lo : Int) ≤ (b : Int) := by omega
      rw [decide_eq_false (by omega)]
      go_enter Tryz.func107, Tryz.ntmps107
      go_wp2
      go_ret
      exact ⟨rfl, rfl⟩
  · have h1' : ¬ (p : Int) < (s.size : Int) := by omega
    rw [decide_eq_false (by omega)]
    go_enter Tryz.func107, Tryz.ntmps107
    go_wp2
    go_ret
    exact ⟨rfl, rfl⟩

end Go.Proofs.YtobmdifledegbaaGreatDoor

namespace Go.Proofs.YtobmdifledegbaaGreatDoor
open Go.RowKit Go.Lib

set_option maxRecDepth 100000 in
set_option maxHeartbeats 2000000 in
theorem rr_As (s : ByteArray) (p B : Nat) (w : World) (hs : s.size ≤ 140737488355328) (hp : p < s.size) (hB : byt (bys s) p = B) (hc : B < 128) : Calls Tryz.prog 82 #[.string s, .int .i64 (p : Int)] w fun e w' => e = .returned (.int .i64 ((runeAt s (p : Int) : Nat) : Int)) ∧ w = w' := by
  have hp' : (p : Int) < (s.size : Int) := by omega
  have hg : ∀ h : p < s.size, s[p].toNat = B := fun h => (byt_get s p h).trans hB
  have hb2 : B < 256 := by rw [← hB]; exact byt_lt _ _
  have W1 : Hid (∀ X, Calls Tryz.prog 107 #[.string s, .int .i64 ((p : Int) + 1), .int .i64 128, .int .i64 191] X fun e w' => e = .returned (.bool (inB (bys s) (p + 1) 128 191)) ∧ X = w') := fun X => by have := within_any s (p + 1) 128 191 X; simpa using this
  have W2 : Hid (∀ X, Calls Tryz.prog 107 #[.string s, .int .i64 ((p : Int) + 2), .int .i64 128, .int .i64 191] X fun e w' => e = .returned (.bool (inB (bys s) (p + 2) 128 191)) ∧ X = w') := fun X => by have := within_any s (p + 2) 128 191 X; simpa using this
  have W3 : Hid (∀ X, Calls Tryz.prog 107 #[.string s, .int .i64 ((p : Int) + 3), .int .i64 128, .int .i64 191] X fun e w' => e = .returned (.bool (inB (bys s) (p + 3) 128 191)) ∧ X = w') := fun X => by have := within_any s (p + 3) 128 191 X; simpa using this
  have ta : (B : Int) < 128 := by omega
  have hR : runeAt s (p : Int) = runeN (s.size - p) B (byt (bys s) (p + 1)) (byt (bys s) (p + 2)) (byt (bys s) (p + 3)) := by
    unfold runeAt
    rw [if_neg (by omega)]
    show runeL ((bys s).drop p) = _
    unfold runeL
    rw [byB_drop, byB_drop, byB_drop, byB_drop, byB_byt, byB_byt, byB_byt, byB_byt, List.length_drop, bys_len, Nat.add_zero, hB]
  rw [runeN_asc _ _ _ _ _ (by omega) (by omega)] at hR
  rw [hR]
  clear hR
  clear hB hc
  go_enter Tryz.func82, Tryz.ntmps82
  go_wp2_with fail
  refine (W1.out _).mono ?_
  rintro e w1 ⟨rfl, rfl⟩
  go_wp2_with fail
  refine (W2.out _).mono ?_
  rintro e w2 ⟨rfl, rfl⟩
  go_wp2_with fail
  refine (W3.out _).mono ?_
  rintro e w3 ⟨rfl, rfl⟩
  go_wp2
  go_ret
  exact ⟨rfl, rfl⟩

set_option maxRecDepth 100000 in
set_option maxHeartbeats 2000000 in
theorem rr_C2 (s : ByteArray) (p B : Nat) (w : World) (hs : s.size ≤ 140737488355328) (hp : p < s.size) (hB : byt (bys s) p = B) (hc : 194 ≤ B ∧ B ≤ 223) : Calls Tryz.prog 82 #[.string s, .int .i64 (p : Int)] w fun e w' => e = .returned (.int .i64 ((runeAt s (p : Int) : Nat) : Int)) ∧ w = w' := by
  have hp' : (p : Int) < (s.size : Int) := by omega
  have hg : ∀ h : p < s.size, s[p].toNat = B := fun h => (byt_get s p h).trans hB
  have hb2 : B < 256 := by rw [← hB]; exact byt_lt _ _
  have W1 : Hid (∀ X, Calls Tryz.prog 107 #[.string s, .int .i64 ((p : Int) + 1), .int .i64 128, .int .i64 191] X fun e w' => e = .returned (.bool (inB (bys s) (p + 1) 128 191)) ∧ X = w') := fun X => by have := within_any s (p + 1) 128 191 X; simpa using this
  have W2 : Hid (∀ X, Calls Tryz.prog 107 #[.string s, .int .i64 ((p : Int) + 2), .int .i64 128, .int .i64 191] X fun e w' => e = .returned (.bool (inB (bys s) (p + 2) 128 191)) ∧ X = w') := fun X => by have := within_any s (p + 2) 128 191 X; simpa using this
  have W3 : Hid (∀ X, Calls Tryz.prog 107 #[.string s, .int .i64 ((p : Int) + 3), .int .i64 128, .int .i64 191] X fun e w' => e = .returned (.bool (inB (bys s) (p + 3) 128 191)) ∧ X = w') := fun X => by have := within_any s (p + 3) 128 191 X; simpa using this
  have ta : ¬ (B : Int) < 128 := by omega
  have tb : 194 ≤ (B : Int) := by omega
  have tc : (B : Int) ≤ 223 := by omega
  have td : ¬ (B : Int) = 224 := by omega
  have te : ¬ 225 ≤ (B : Int) := by omega
  have tg : ¬ (B : Int) = 238 := by omega
  have th : ¬ (B : Int) = 239 := by omega
  have ti : ¬ (B : Int) = 237 := by omega
  have tj : ¬ (B : Int) = 240 := by omega
  have tk : ¬ 241 ≤ (B : Int) := by omega
  have tm : ¬ (B : Int) = 244 := by omega
  have hR : runeAt s (p : Int) = runeN (s.size - p) B (byt (bys s) (p + 1)) (byt (bys s) (p + 2)) (byt (bys s) (p + 3)) := by
    unfold runeAt
    rw [if_neg (by omega)]
    show runeL ((bys s).drop p) = _
    unfold runeL
    rw [byB_drop, byB_drop, byB_drop, byB_drop, byB_byt, byB_byt, byB_byt, byB_byt, List.length_drop, bys_len, Nat.add_zero, hB]
  rw [runeN_C2 _ _ _ _ _ (by omega) (by omega)] at hR
  have hl := bys_len s
  obtain ⟨x1, hx1⟩ : ∃ x, x = inB (bys s) (p + 1) 128 191 := ⟨_, rfl⟩
  rw [← hx1] at W1
  obtain ⟨x2, hx2⟩ : ∃ x, x = inB (bys s) (p + 2) 128 191 := ⟨_, rfl⟩
  rw [← hx2] at W2
  obtain ⟨x3, hx3⟩ : ∃ x, x = inB (bys s) (p + 3) 128 191 := ⟨_, rfl⟩
  rw [← hx3] at W3
  have hV : runeAt s (p : Int) = (if x1 = true then 2 else 0 : Nat) := by
    rw [hR]
    unfold inB at hx1
    have q : (x1 = true) ↔ (((p + 1) < (bys s).length ∧ 128 ≤ byt (bys s) (p + 1) ∧ byt (bys s) (p + 1) ≤ 191)) := by rw [hx1]; simp only [decide_eq_true_eq]
    by_cases hq : x1 = true
    · have := q.1 hq
      rw [if_pos hq, if_neg (by omega)]
    · have : ¬ (((p + 1) < (bys s).length ∧ 128 ≤ byt (bys s) (p + 1) ∧ byt (bys s) (p + 1) ≤ 191)) := fun h => hq (q.2 h)
      rw [if_neg hq, if_pos (by omega)]
  rw [hV]
  clear hR hV hl hx1 hx2 hx3
  clear hB hc
  cases x1
  · rw [if_neg (by simp)]
    go_enter Tryz.func82, Tryz.ntmps82
    go_wp2_with fail
    refine (W1.out _).mono ?_
    rintro e w1 ⟨rfl, rfl⟩
    go_wp2_with fail
    refine (W2.out _).mono ?_
    rintro e w2 ⟨rfl, rfl⟩
    go_wp2_with fail
    refine (W3.out _).mono ?_
    rintro e w3 ⟨rfl, rfl⟩
    go_wp2
    go_ret
    exact ⟨rfl, rfl⟩
  · skip
    rw [if_pos (by simp)]
    go_enter Tryz.func82, Tryz.ntmps82
    go_wp2_with fail
    refine (W1.out _).mono ?_
    rintro e w1 ⟨rfl, rfl⟩
    go_wp2_with fail
    refine (W2.out _).mono ?_
    rintro e w2 ⟨rfl, rfl⟩
    go_wp2_with fail
    refine (W3.out _).mono ?_
    rintro e w3 ⟨rfl, rfl⟩
    go_wp2
    go_ret
    exact ⟨rfl, rfl⟩

set_option maxRecDepth 100000 in
set_option maxHeartbeats 2000000 in
theorem rr_E0 (s : ByteArray) (p B : Nat) (w : World) (hs : s.size ≤ 140737488355328) (hp : p < s.size) (hB : byt (bys s) p = B) (hc : B = 224) : Calls Tryz.prog 82 #[.string s, .int .i64 (p : Int)] w fun e w' => e = .returned (.int .i64 ((runeAt s (p : Int) : Nat) : Int)) ∧ w = w' := by
  have hp' : (p : Int) < (s.size : Int) := by omega
  have hg : ∀ h : p < s.size, s[p].toNat = B := fun h => (byt_get s p h).trans hB
  have hb2 : B < 256 := by rw [← hB]; exact byt_lt _ _
  have W1 : Hid (∀ X, Calls Tryz.prog 107 #[.string s, .int .i64 ((p : Int) + 1), .int .i64 128, .int .i64 191] X fun e w' => e = .returned (.bool (inB (bys s) (p + 1) 128 191)) ∧ X = w') := fun X => by have := within_any s (p + 1) 128 191 X; simpa using this
  have W2 : Hid (∀ X, Calls Tryz.prog 107 #[.string s, .int .i64 ((p : Int) + 2), .int .i64 128, .int .i64 191] X fun e w' => e = .returned (.bool (inB (bys s) (p + 2) 128 191)) ∧ X = w') := fun X => by have := within_any s (p + 2) 128 191 X; simpa using this
  have W3 : Hid (∀ X, Calls Tryz.prog 107 #[.string s, .int .i64 ((p : Int) + 3), .int .i64 128, .int .i64 191] X fun e w' => e = .returned (.bool (inB (bys s) (p + 3) 128 191)) ∧ X = w') := fun X => by have := within_any s (p + 3) 128 191 X; simpa using this
  have W4 : Hid (∀ X, Calls Tryz.prog 107 #[.string s, .int .i64 ((p : Int) + 1), .int .i64 160, .int .i64 191] X fun e w' => e = .returned (.bool (inB (bys s) (p + 1) 160 191)) ∧ X = w') := fun X => by have := within_any s (p + 1) 160 191 X; simpa using this
  have ta : ¬ (B : Int) < 128 := by omega
  have tb : 194 ≤ (B : Int) := by omega
  have tc : ¬ (B : Int) ≤ 223 := by omega
  have td : (B : Int) = 224 := by omega
  have te : ¬ 225 ≤ (B : Int) := by omega
  have tg : ¬ (B : Int) = 238 := by omega
  have th : ¬ (B : Int) = 239 := by omega
  have ti : ¬ (B : Int) = 237 := by omega
  have tj : ¬ (B : Int) = 240 := by omega
  have tk : ¬ 241 ≤ (B : Int) := by omega
  have tm : ¬ (B : Int) = 244 := by omega
  have hR : runeAt s (p : Int) = runeN (s.size - p) B (byt (bys s) (p + 1)) (byt (bys s) (p + 2)) (byt (bys s) (p + 3)) := by
    unfold runeAt
    rw [if_neg (by omega)]
    show runeL ((bys s).drop p) = _
    unfold runeL
    rw [byB_drop, byB_drop, byB_drop, byB_drop, byB_byt, byB_byt, byB_byt, byB_byt, List.length_drop, bys_len, Nat.add_zero, hB]
  rw [runeN_E0 _ _ _ _ _ (by omega) (by omega)] at hR
  have hl := bys_len s
  obtain ⟨x1, hx1⟩ : ∃ x, x = inB (bys s) (p + 1) 128 191 := ⟨_, rfl⟩
  rw [← hx1] at W1
  obtain ⟨x2, hx2⟩ : ∃ x, x = inB (bys s) (p + 2) 128 191 := ⟨_, rfl⟩
  rw [← hx2] at W2
  obtain ⟨x3, hx3⟩ : ∃ x, x = inB (bys s) (p + 3) 128 191 := ⟨_, rfl⟩
  rw [← hx3] at W3
  obtain ⟨x4, hx4⟩ : ∃ x, x = inB (bys s) (p + 1) 160 191 := ⟨_, rfl⟩
  rw [← hx4] at W4
  have hV : runeAt s (p : Int) = (if x4 = true ∧ x2 = true then 3 else 0 : Nat) := by
    rw [hR]
    unfold inB at hx4
    unfold inB at hx2
    have q : (x4 = true ∧ x2 = true) ↔ (((p + 1) < (bys s).length ∧ 160 ≤ byt (bys s) (p + 1) ∧ byt (bys s) (p + 1) ≤ 191) ∧ ((p + 2) < (bys s).length ∧ 128 ≤ byt (bys s) (p + 2) ∧ byt (bys s) (p + 2) ≤ 191)) := by rw [hx4, hx2]; simp only [decide_eq_true_eq]
    by_cases hq : x4 = true ∧ x2 = true
    · have := q.1 hq
      rw [if_pos hq, if_neg (by omega)]
    · have : ¬ (((p + 1) < (bys s).length ∧ 160 ≤ byt (bys s) (p + 1) ∧ byt (bys s) (p + 1) ≤ 191) ∧ ((p + 2) < (bys s).length ∧ 128 ≤ byt (bys s) (p + 2) ∧ byt (bys s) (p + 2) ≤ 191)) := fun h => hq (q.2 h)
      rw [if_neg hq, if_pos (by omega)]
  rw [hV]
  clear hR hV hl hx1 hx2 hx3 hx4
  clear hB hc
  cases x4
  · rw [if_neg (by simp)]
    go_enter Tryz.func82, Tryz.ntmps82
    go_wp2_with fail
    refine (W1.out _).mono ?_
    rintro e w1 ⟨rfl, rfl⟩
    go_wp2_with fail
    refine (W2.out _).mono ?_
    rintro e w2 ⟨rfl, rfl⟩
    go_wp2_with fail
    refine (W3.out _).mono ?_
    rintro e w3 ⟨rfl, rfl⟩
    go_wp2_with fail
    refine (W4.out _).mono ?_
    rintro e w4 ⟨rfl, rfl⟩
    go_wp2
    go_ret
    exact ⟨rfl, rfl⟩
  · skip
    cases x2
    · rw [if_neg (by simp)]
      go_enter Tryz.func82, Tryz.ntmps82
      go_wp2_with fail
      refine (W1.out _).mono ?_
      rintro e w1 ⟨rfl, rfl⟩
      go_wp2_with fail
      refine (W2.out _).mono ?_
      rintro e w2 ⟨rfl, rfl⟩
      go_wp2_with fail
      refine (W3.out _).mono ?_
      rintro e w3 ⟨rfl, rfl⟩
      go_wp2_with fail
      refine (W4.out _).mono ?_
      rintro e w4 ⟨rfl, rfl⟩
      go_wp2
      go_ret
      exact ⟨rfl, rfl⟩
    · skip
      rw [if_pos (by simp)]
      go_enter Tryz.func82, Tryz.ntmps82
      go_wp2_with fail
      refine (W1.out _).mono ?_
      rintro e w1 ⟨rfl, rfl⟩
      go_wp2_with fail
      refine (W2.out _).mono ?_
      rintro e w2 ⟨rfl, rfl⟩
      go_wp2_with fail
      refine (W3.out _).mono ?_
      rintro e w3 ⟨rfl, rfl⟩
      go_wp2_with fail
      refine (W4.out _).mono ?_
      rintro e w4 ⟨rfl, rfl⟩
      go_wp2
      go_ret
      exact ⟨rfl, rfl⟩

set_option maxRecDepth 100000 in
set_option maxHeartbeats 2000000 in
theorem rr_E1a (s : ByteArray) (p B : Nat) (w : World) (hs : s.size ≤ 140737488355328) (hp : p < s.size) (hB : byt (bys s) p = B) (hc : 225 ≤ B ∧ B ≤ 236) : Calls Tryz.prog 82 #[.string s, .int .i64 (p : Int)] w fun e w' => e = .returned (.int .i64 ((runeAt s (p : Int) : Nat) : Int)) ∧ w = w' := by
  have hp' : (p : Int) < (s.size : Int) := by omega
  have hg : ∀ h : p < s.size, s[p].toNat = B := fun h => (byt_get s p h).trans hB
  have hb2 : B < 256 := by rw [← hB]; exact byt_lt _ _
  have W1 : Hid (∀ X, Calls Tryz.prog 107 #[.string s, .int .i64 ((p : Int) + 1), .int .i64 128, .int .i64 191] X fun e w' => e = .returned (.bool (inB (bys s) (p + 1) 128 191)) ∧ X = w') := fun X => by have := within_any s (p + 1) 128 191 X; simpa using this
  have W2 : Hid (∀ X, Calls Tryz.prog 107 #[.string s, .int .i64 ((p : Int) + 2), .int .i64 128, .int .i64 191] X fun e w' => e = .returned (.bool (inB (bys s) (p + 2) 128 191)) ∧ X = w') := fun X => by have := within_any s (p + 2) 128 191 X; simpa using this
  have W3 : Hid (∀ X, Calls Tryz.prog 107 #[.string s, .int .i64 ((p : Int) + 3), .int .i64 128, .int .i64 191] X fun e w' => e = .returned (.bool (inB (bys s) (p + 3) 128 191)) ∧ X = w') := fun X => by have := within_any s (p + 3) 128 191 X; simpa using this
  have ta : ¬ (B : Int) < 128 := by omega
  have tb : 194 ≤ (B : Int) := by omega
  have tc : ¬ (B : Int) ≤ 223 := by omega
  have td : ¬ (B : Int) = 224 := by omega
  have te : 225 ≤ (B : Int) := by omega
  have tf : (B : Int) ≤ 236 := by omega
  have tg : ¬ (B : Int) = 238 := by omega
  have th : ¬ (B : Int) = 239 := by omega
  have ti : ¬ (B : Int) = 237 := by omega
  have tj : ¬ (B : Int) = 240 := by omega
  have tk : ¬ 241 ≤ (B : Int) := by omega
  have tm : ¬ (B : Int) = 244 := by omega
  have hR : runeAt s (p : Int) = runeN (s.size - p) B (byt (bys s) (p + 1)) (byt (bys s) (p + 2)) (byt (bys s) (p + 3)) := by
    unfold runeAt
    rw [if_neg (by omega)]
    show runeL ((bys s).drop p) = _
    unfold runeL
    rw [byB_drop, byB_drop, byB_drop, byB_drop, byB_byt, byB_byt, byB_byt, byB_byt, List.length_drop, bys_len, Nat.add_zero, hB]
  rw [runeN_E1 _ _ _ _ _ (by omega) (by omega)] at hR
  have hl := bys_len s
  obtain ⟨x1, hx1⟩ : ∃ x, x = inB (bys s) (p + 1) 128 191 := ⟨_, rfl⟩
  rw [← hx1] at W1
  obtain ⟨x2, hx2⟩ : ∃ x, x = inB (bys s) (p + 2) 128 191 := ⟨_, rfl⟩
  rw [← hx2] at W2
  obtain ⟨x3, hx3⟩ : ∃ x, x = inB (bys s) (p + 3) 128 191 := ⟨_, rfl⟩
  rw [← hx3] at W3
  have hV : runeAt s (p : Int) = (if x1 = true ∧ x2 = true then 3 else 0 : Nat) := by
    rw [hR]
    unfold inB at hx1
    unfold inB at hx2
    have q : (x1 = true ∧ x2 = true) ↔ (((p + 1) < (bys s).length ∧ 128 ≤ byt (bys s) (p + 1) ∧ byt (bys s) (p + 1) ≤ 191) ∧ ((p + 2) < (bys s).length ∧ 128 ≤ byt (bys s) (p + 2) ∧ byt (bys s) (p + 2) ≤ 191)) := by rw [hx1, hx2]; simp only [decide_eq_true_eq]
    by_cases hq : x1 = true ∧ x2 = true
    · have := q.1 hq
      rw [if_pos hq, if_neg (by omega)]
    · have : ¬ (((p + 1) < (bys s).length ∧ 128 ≤ byt (bys s) (p + 1) ∧ byt (bys s) (p + 1) ≤ 191) ∧ ((p + 2) < (bys s).length ∧ 128 ≤ byt (bys s) (p + 2) ∧ byt (bys s) (p + 2) ≤ 191)) := fun h => hq (q.2 h)
      rw [if_neg hq, if_pos (by omega)]
  rw [hV]
  clear hR hV hl hx1 hx2 hx3
  clear hB hc
  cases x1
  · rw [if_neg (by simp)]
    go_enter Tryz.func82, Tryz.ntmps82
    go_wp2_with fail
    refine (W1.out _).mono ?_
    rintro e w1 ⟨rfl, rfl⟩
    go_wp2_with fail
    refine (W2.out _).mono ?_
    rintro e w2 ⟨rfl, rfl⟩
    go_wp2_with fail
    refine (W3.out _).mono ?_
    rintro e w3 ⟨rfl, rfl⟩
    go_wp2
    go_ret
    exact ⟨rfl, rfl⟩
  · skip
    cases x2
    · rw [if_neg (by simp)]
      go_enter Tryz.func82, Tryz.ntmps82
      go_wp2_with fail
      refine (W1.out _).mono ?_
      rintro e w1 ⟨rfl, rfl⟩
      go_wp2_with fail
      refine (W2.out _).mono ?_
      rintro e w2 ⟨rfl, rfl⟩
      go_wp2_with fail
      refine (W3.out _).mono ?_
      rintro e w3 ⟨rfl, rfl⟩
      go_wp2
      go_ret
      exact ⟨rfl, rfl⟩
    · skip
      rw [if_pos (by simp)]
      go_enter Tryz.func82, Tryz.ntmps82
      go_wp2_with fail
      refine (W1.out _).mono ?_
      rintro e w1 ⟨rfl, rfl⟩
      go_wp2_with fail
      refine (W2.out _).mono ?_
      rintro e w2 ⟨rfl, rfl⟩
      go_wp2_with fail
      refine (W3.out _).mono ?_
      rintro e w3 ⟨rfl, rfl⟩
      go_wp2
      go_ret
      exact ⟨rfl, rfl⟩

set_option maxRecDepth 100000 in
set_option maxHeartbeats 2000000 in
theorem rr_E1b (s : ByteArray) (p B : Nat) (w : World) (hs : s.size ≤ 140737488355328) (hp : p < s.size) (hB : byt (bys s) p = B) (hc : B = 238) : Calls Tryz.prog 82 #[.string s, .int .i64 (p : Int)] w fun e w' => e = .returned (.int .i64 ((runeAt s (p : Int) : Nat) : Int)) ∧ w = w' := by
  have hp' : (p : Int) < (s.size : Int) := by omega
  have hg : ∀ h : p < s.size, s[p].toNat = B := fun h => (byt_get s p h).trans hB
  have hb2 : B < 256 := by rw [← hB]; exact byt_lt _ _
  have W1 : Hid (∀ X, Calls Tryz.prog 107 #[.string s, .int .i64 ((p : Int) + 1), .int .i64 128, .int .i64 191] X fun e w' => e = .returned (.bool (inB (bys s) (p + 1) 128 191)) ∧ X = w') := fun X => by have := within_any s (p + 1) 128 191 X; simpa using this
  have W2 : Hid (∀ X, Calls Tryz.prog 107 #[.string s, .int .i64 ((p : Int) + 2), .int .i64 128, .int .i64 191] X fun e w' => e = .returned (.bool (inB (bys s) (p + 2) 128 191)) ∧ X = w') := fun X => by have := within_any s (p + 2) 128 191 X; simpa using this
  have W3 : Hid (∀ X, Calls Tryz.prog 107 #[.string s, .int .i64 ((p : Int) + 3), .int .i64 128, .int .i64 191] X fun e w' => e = .returned (.bool (inB (bys s) (p + 3) 128 191)) ∧ X = w') := fun X => by have := within_any s (p + 3) 128 191 X; simpa using this
  have ta : ¬ (B : Int) < 128 := by omega
  have tb : 194 ≤ (B : Int) := by omega
  have tc : ¬ (B : Int) ≤ 223 := by omega
  have td : ¬ (B : Int) = 224 := by omega
  have te : 225 ≤ (B : Int) := by omega
  have tf : ¬ (B : Int) ≤ 236 := by omega
  have tg : (B : Int) = 238 := by omega
  have ti : ¬ (B : Int) = 237 := by omega
  have tj : ¬ (B : Int) = 240 := by omega
  have tk : ¬ 241 ≤ (B : Int) := by omega
  have tm : ¬ (B : Int) = 244 := by omega
  have hR : runeAt s (p : Int) = runeN (s.size - p) B (byt (bys s) (p + 1)) (byt (bys s) (p + 2)) (byt (bys s) (p + 3)) := by
    unfold runeAt
    rw [if_neg (by omega)]
    show runeL ((bys s).drop p) = _
    unfold runeL
    rw [byB_drop, byB_drop, byB_drop, byB_drop, byB_byt, byB_byt, byB_byt, byB_byt, List.length_drop, bys_len, Nat.add_zero, hB]
  rw [runeN_E1 _ _ _ _ _ (by omega) (by omega)] at hR
  have hl := bys_len s
  obtain ⟨x1, hx1⟩ : ∃ x, x = inB (bys s) (p + 1) 128 191 := ⟨_, rfl⟩
  rw [← hx1] at W1
  obtain ⟨x2, hx2⟩ : ∃ x, x = inB (bys s) (p + 2) 128 191 := ⟨_, rfl⟩
  rw [← hx2] at W2
  obtain ⟨x3, hx3⟩ : ∃ x, x = inB (bys s) (p + 3) 128 191 := ⟨_, rfl⟩
  rw [← hx3] at W3
  have hV : runeAt s (p : Int) = (if x1 = true ∧ x2 = true then 3 else 0 : Nat) := by
    rw [hR]
    unfold inB at hx1
    unfold inB at hx2
    have q : (x1 = true ∧ x2 = true) ↔ (((p + 1) < (bys s).length ∧ 128 ≤ byt (bys s) (p + 1) ∧ byt (bys s) (p + 1) ≤ 191) ∧ ((p + 2) < (bys s).length ∧ 128 ≤ byt (bys s) (p + 2) ∧ byt (bys s) (p + 2) ≤ 191)) := by rw [hx1, hx2]; simp only [decide_eq_true_eq]
    by_cases hq : x1 = true ∧ x2 = true
    · have := q.1 hq
      rw [if_pos hq, if_neg (by omega)]
    · have : ¬ (((p + 1) < (bys s).length ∧ 128 ≤ byt (bys s) (p + 1) ∧ byt (bys s) (p + 1) ≤ 191) ∧ ((p + 2) < (bys s).length ∧ 128 ≤ byt (bys s) (p + 2) ∧ byt (bys s) (p + 2) ≤ 191)) := fun h => hq (q.2 h)
      rw [if_neg hq, if_pos (by omega)]
  rw [hV]
  clear hR hV hl hx1 hx2 hx3
  clear hB hc
  cases x1
  · rw [if_neg (by simp)]
    go_enter Tryz.func82, Tryz.ntmps82
    go_wp2_with fail
    refine (W1.out _).mono ?_
    rintro e w1 ⟨rfl, rfl⟩
    go_wp2_with fail
    refine (W2.out _).mono ?_
    rintro e w2 ⟨rfl, rfl⟩
    go_wp2_with fail
    refine (W3.out _).mono ?_
    rintro e w3 ⟨rfl, rfl⟩
    go_wp2
    go_ret
    exact ⟨rfl, rfl⟩
  · skip
    cases x2
    · rw [if_neg (by simp)]
      go_enter Tryz.func82, Tryz.ntmps82
      go_wp2_with fail
      refine (W1.out _).mono ?_
      rintro e w1 ⟨rfl, rfl⟩
      go_wp2_with fail
      refine (W2.out _).mono ?_
      rintro e w2 ⟨rfl, rfl⟩
      go_wp2_with fail
      refine (W3.out _).mono ?_
      rintro e w3 ⟨rfl, rfl⟩
      go_wp2
      go_ret
      exact ⟨rfl, rfl⟩
    · skip
      rw [if_pos (by simp)]
      go_enter Tryz.func82, Tryz.ntmps82
      go_wp2_with fail
      refine (W1.out _).mono ?_
      rintro e w1 ⟨rfl, rfl⟩
      go_wp2_with fail
      refine (W2.out _).mono ?_
      rintro e w2 ⟨rfl, rfl⟩
      go_wp2_with fail
      refine (W3.out _).mono ?_
      rintro e w3 ⟨rfl, rfl⟩
      go_wp2
      go_ret
      exact ⟨rfl, rfl⟩

set_option maxRecDepth 100000 in
set_option maxHeartbeats 2000000 in
theorem rr_E1c (s : ByteArray) (p B : Nat) (w : World) (hs : s.size ≤ 140737488355328) (hp : p < s.size) (hB : byt (bys s) p = B) (hc : B = 239) : Calls Tryz.prog 82 #[.string s, .int .i64 (p : Int)] w fun e w' => e = .returned (.int .i64 ((runeAt s (p : Int) : Nat) : Int)) ∧ w = w' := by
  have hp' : (p : Int) < (s.size : Int) := by omega
  have hg : ∀ h : p < s.size, s[p].toNat = B := fun h => (byt_get s p h).trans hB
  have hb2 : B < 256 := by rw [← hB]; exact byt_lt _ _
  have W1 : Hid (∀ X, Calls Tryz.prog 107 #[.string s, .int .i64 ((p : Int) + 1), .int .i64 128, .int .i64 191] X fun e w' => e = .returned (.bool (inB (bys s) (p + 1) 128 191)) ∧ X = w') := fun X => by have := within_any s (p + 1) 128 191 X; simpa using this
  have W2 : Hid (∀ X, Calls Tryz.prog 107 #[.string s, .int .i64 ((p : Int) + 2), .int .i64 128, .int .i64 191] X fun e w' => e = .returned (.bool (inB (bys s) (p + 2) 128 191)) ∧ X = w') := fun X => by have := within_any s (p + 2) 128 191 X; simpa using this
  have W3 : Hid (∀ X, Calls Tryz.prog 107 #[.string s, .int .i64 ((p : Int) + 3), .int .i64 128, .int .i64 191] X fun e w' => e = .returned (.bool (inB (bys s) (p + 3) 128 191)) ∧ X = w') := fun X => by have := within_any s (p + 3) 128 191 X; simpa using this
  have ta : ¬ (B : Int) < 128 := by omega
  have tb : 194 ≤ (B : Int) := by omega
  have tc : ¬ (B : Int) ≤ 223 := by omega
  have td : ¬ (B : Int) = 224 := by omega
  have te : 225 ≤ (B : Int) := by omega
  have tf : ¬ (B : Int) ≤ 236 := by omega
  have tg : ¬ (B : Int) = 238 := by omega
  have th : (B : Int) = 239 := by omega
  have ti : ¬ (B : Int) = 237 := by omega
  have tj : ¬ (B : Int) = 240 := by omega
  have tk : ¬ 241 ≤ (B : Int) := by omega
  have tm : ¬ (B : Int) = 244 := by omega
  have hR : runeAt s (p : Int) = runeN (s.size - p) B (byt (bys s) (p + 1)) (byt (bys s) (p + 2)) (byt (bys s) (p + 3)) := by
    unfold runeAt
    rw [if_neg (by omega)]
    show runeL ((bys s).drop p) = _
    unfold runeL
    rw [byB_drop, byB_drop, byB_drop, byB_drop, byB_byt, byB_byt, byB_byt, byB_byt, List.length_drop, bys_len, Nat.add_zero, hB]
  rw [runeN_E1 _ _ _ _ _ (by omega) (by omega)] at hR
  have hl := bys_len s
  obtain ⟨x1, hx1⟩ : ∃ x, x = inB (bys s) (p + 1) 128 191 := ⟨_, rfl⟩
  rw [← hx1] at W1
  obtain ⟨x2, hx2⟩ : ∃ x, x = inB (bys s) (p + 2) 128 191 := ⟨_, rfl⟩
  rw [← hx2] at W2
  obtain ⟨x3, hx3⟩ : ∃ x, x = inB (bys s) (p + 3) 128 191 := ⟨_, rfl⟩
  rw [← hx3] at W3
  have hV : runeAt s (p : Int) = (if x1 = true ∧ x2 = true then 3 else 0 : Nat) := by
    rw [hR]
    unfold inB at hx1
    unfold inB at hx2
    have q : (x1 = true ∧ x2 = true) ↔ (((p + 1) < (bys s).length ∧ 128 ≤ byt (bys s) (p + 1) ∧ byt (bys s) (p + 1) ≤ 191) ∧ ((p + 2) < (bys s).length ∧ 128 ≤ byt (bys s) (p + 2) ∧ byt (bys s) (p + 2) ≤ 191)) := by rw [hx1, hx2]; simp only [decide_eq_true_eq]
    by_cases hq : x1 = true ∧ x2 = true
    · have := q.1 hq
      rw [if_pos hq, if_neg (by omega)]
    · have : ¬ (((p + 1) < (bys s).length ∧ 128 ≤ byt (bys s) (p + 1) ∧ byt (bys s) (p + 1) ≤ 191) ∧ ((p + 2) < (bys s).length ∧ 128 ≤ byt (bys s) (p + 2) ∧ byt (bys s) (p + 2) ≤ 191)) := fun h => hq (q.2 h)
      rw [if_neg hq, if_pos (by omega)]
  rw [hV]
  clear hR hV hl hx1 hx2 hx3
  clear hB hc
  cases x1
  · rw [if_neg (by simp)]
    go_enter Tryz.func82, Tryz.ntmps82
    go_wp2_with fail
    refine (W1.out _).mono ?_
    rintro e w1 ⟨rfl, rfl⟩
    go_wp2_with fail
    refine (W2.out _).mono ?_
    rintro e w2 ⟨rfl, rfl⟩
    go_wp2_with fail
    refine (W3.out _).mono ?_
    rintro e w3 ⟨rfl, rfl⟩
    go_wp2
    go_ret
    exact ⟨rfl, rfl⟩
  · skip
    cases x2
    · rw [if_neg (by simp)]
      go_enter Tryz.func82, Tryz.ntmps82
      go_wp2_with fail
      refine (W1.out _).mono ?_
      rintro e w1 ⟨rfl, rfl⟩
      go_wp2_with fail
      refine (W2.out _).mono ?_
      rintro e w2 ⟨rfl, rfl⟩
      go_wp2_with fail
      refine (W3.out _).mono ?_
      rintro e w3 ⟨rfl, rfl⟩
      go_wp2
      go_ret
      exact ⟨rfl, rfl⟩
    · skip
      rw [if_pos (by simp)]
      go_enter Tryz.func82, Tryz.ntmps82
      go_wp2_with fail
      refine (W1.out _).mono ?_
      rintro e w1 ⟨rfl, rfl⟩
      go_wp2_with fail
      refine (W2.out _).mono ?_
      rintro e w2 ⟨rfl, rfl⟩
      go_wp2_with fail
      refine (W3.out _).mono ?_
      rintro e w3 ⟨rfl, rfl⟩
      go_wp2
      go_ret
      exact ⟨rfl, rfl⟩

end Go.Proofs.YtobmdifledegbaaGreatDoor

namespace Go.Proofs.YtobmdifledegbaaGreatDoor
open Go.RowKit Go.Lib

set_option maxRecDepth 100000 in
set_option maxHeartbeats 2000000 in
theorem rr_ED (s : ByteArray) (p B : Nat) (w : World) (hs : s.size ≤ 140737488355328) (hp : p < s.size) (hB : byt (bys s) p = B) (hc : B = 237) : Calls Tryz.prog 82 #[.string s, .int .i64 (p : Int)] w fun e w' => e = .returned (.int .i64 ((runeAt s (p : Int) : Nat) : Int)) ∧ w = w' := by
  have hp' : (p : Int) < (s.size : Int) := by omega
  have hg : ∀ h : p < s.size, s[p].toNat = B := fun h => (byt_get s p h).trans hB
  have hb2 : B < 256 := by rw [← hB]; exact byt_lt _ _
  have W1 : Hid (∀ X, Calls Tryz.prog 107 #[.string s, .int .i64 ((p : Int) + 1), .int .i64 128, .int .i64 191] X fun e w' => e = .returned (.bool (inB (bys s) (p + 1) 128 191)) ∧ X = w') := fun X => by have := within_any s (p + 1) 128 191 X; simpa using this
  have W2 : Hid (∀ X, Calls Tryz.prog 107 #[.string s, .int .i64 ((p : Int) + 2), .int .i64 128, .int .i64 191] X fun e w' => e = .returned (.bool (inB (bys s) (p + 2) 128 191)) ∧ X = w') := fun X => by have := within_any s (p + 2) 128 191 X; simpa using this
  have W3 : Hid (∀ X, Calls Tryz.prog 107 #[.string s, .int .i64 ((p : Int) + 3), .int .i64 128, .int .i64 191] X fun e w' => e = .returned (.bool (inB (bys s) (p + 3) 128 191)) ∧ X = w') := fun X => by have := within_any s (p + 3) 128 191 X; simpa using this
  have W4 : Hid (∀ X, Calls Tryz.prog 107 #[.string s, .int .i64 ((p : Int) + 1), .int .i64 128, .int .i64 159] X fun e w' => e = .returned (.bool (inB (bys s) (p + 1) 128 159)) ∧ X = w') := fun X => by have := within_any s (p + 1) 128 159 X; simpa using this
  have ta : ¬ (B : Int) < 128 := by omega
  have tb : 194 ≤ (B : Int) := by omega
  have tc : ¬ (B : Int) ≤ 223 := by omega
  have td : ¬ (B : Int) = 224 := by omega
  have te : 225 ≤ (B : Int) := by omega
  have tf : ¬ (B : Int) ≤ 236 := by omega
  have tg : ¬ (B : Int) = 238 := by omega
  have th : ¬ (B : Int) = 239 := by omega
  have ti : (B : Int) = 237 := by omega
  have tj : ¬ (B : Int) = 240 := by omega
  have tk : ¬ 241 ≤ (B : Int) := by omega
  have tm : ¬ (B : Int) = 244 := by omega
  have hR : runeAt s (p : Int) = runeN (s.size - p) B (byt (bys s) (p + 1)) (byt (bys s) (p + 2)) (byt (bys s) (p + 3)) := by
    unfold runeAt
    rw [if_neg (by omega)]
    show runeL ((bys s).drop p) = _
    unfold runeL
    rw [byB_drop, byB_drop, byB_drop, byB_drop, byB_byt, byB_byt, byB_byt, byB_byt, List.length_drop, bys_len, Nat.add_zero, hB]
  rw [runeN_ED _ _ _ _ _ (by omega) (by omega)] at hR
  have hl := bys_len s
  obtain ⟨x1, hx1⟩ : ∃ x, x = inB (bys s) (p + 1) 128 191 := ⟨_, rfl⟩
  rw [← hx1] at W1
  obtain ⟨x2, hx2⟩ : ∃ x, x = inB (bys s) (p + 2) 128 191 := ⟨_, rfl⟩
  rw [← hx2] at W2
  obtain ⟨x3, hx3⟩ : ∃ x, x = inB (bys s) (p + 3) 128 191 := ⟨_, rfl⟩
  rw [← hx3] at W3
  obtain ⟨x4, hx4⟩ : ∃ x, x = inB (bys s) (p + 1) 128 159 := ⟨_, rfl⟩
  rw [← hx4] at W4
  have hV : runeAt s (p : Int) = (if x4 = true ∧ x2 = true then 3 else 0 : Nat) := by
    rw [hR]
    unfold inB at hx4
    unfold inB at hx2
    have q : (x4 = true ∧ x2 = true) ↔ (((p + 1) < (bys s).length ∧ 128 ≤ byt (bys s) (p + 1) ∧ byt (bys s) (p + 1) ≤ 159) ∧ ((p + 2) < (bys s).length ∧ 128 ≤ byt (bys s) (p + 2) ∧ byt (bys s) (p + 2) ≤ 191)) := by rw [hx4, hx2]; simp only [decide_eq_true_eq]
    by_cases hq : x4 = true ∧ x2 = true
    · have := q.1 hq
      rw [if_pos hq, if_neg (by omega)]
    · have : ¬ (((p + 1) < (bys s).length ∧ 128 ≤ byt (bys s) (p + 1) ∧ byt (bys s) (p + 1) ≤ 159) ∧ ((p + 2) < (bys s).length ∧ 128 ≤ byt (bys s) (p + 2) ∧ byt (bys s) (p + 2) ≤ 191)) := fun h => hq (q.2 h)
      rw [if_neg hq, if_pos (by omega)]
  rw [hV]
  clear hR hV hl hx1 hx2 hx3 hx4
  clear hB hc
  cases x4
  · rw [if_neg (by simp)]
    go_enter Tryz.func82, Tryz.ntmps82
    go_wp2_with fail
    refine (W1.out _).mono ?_
    rintro e w1 ⟨rfl, rfl⟩
    go_wp2_with fail
    refine (W2.out _).mono ?_
    rintro e w2 ⟨rfl, rfl⟩
    go_wp2_with fail
    refine (W3.out _).mono ?_
    rintro e w3 ⟨rfl, rfl⟩
    go_wp2_with fail
    refine (W4.out _).mono ?_
    rintro e w4 ⟨rfl, rfl⟩
    go_wp2
    go_ret
    exact ⟨rfl, rfl⟩
  · skip
    cases x2
    · rw [if_neg (by simp)]
      go_enter Tryz.func82, Tryz.ntmps82
      go_wp2_with fail
      refine (W1.out _).mono ?_
      rintro e w1 ⟨rfl, rfl⟩
      go_wp2_with fail
      refine (W2.out _).mono ?_
      rintro e w2 ⟨rfl, rfl⟩
      go_wp2_with fail
      refine (W3.out _).mono ?_
      rintro e w3 ⟨rfl, rfl⟩
      go_wp2_with fail
      refine (W4.out _).mono ?_
      rintro e w4 ⟨rfl, rfl⟩
      go_wp2
      go_ret
      exact ⟨rfl, rfl⟩
    · skip
      rw [if_pos (by simp)]
      go_enter Tryz.func82, Tryz.ntmps82
      go_wp2_with fail
      refine (W1.out _).mono ?_
      rintro e w1 ⟨rfl, rfl⟩
      go_wp2_with fail
      refine (W2.out _).mono ?_
      rintro e w2 ⟨rfl, rfl⟩
      go_wp2_with fail
      refine (W3.out _).mono ?_
      rintro e w3 ⟨rfl, rfl⟩
      go_wp2_with fail
      refine (W4.out _).mono ?_
      rintro e w4 ⟨rfl, rfl⟩
      go_wp2
      go_ret
      exact ⟨rfl, rfl⟩

set_option maxRecDepth 100000 in
set_option maxHeartbeats 2000000 in
theorem rr_F0 (s : ByteArray) (p B : Nat) (w : World) (hs : s.size ≤ 140737488355328) (hp : p < s.size) (hB : byt (bys s) p = B) (hc : B = 240) : Calls Tryz.prog 82 #[.string s, .int .i64 (p : Int)] w fun e w' => e = .returned (.int .i64 ((runeAt s (p : Int) : Nat) : Int)) ∧ w = w' := by
  have hp' : (p : Int) < (s.size : Int) := by omega
  have hg : ∀ h : p < s.size, s[p].toNat = B := fun h => (byt_get s p h).trans hB
  have hb2 : B < 256 := by rw [← hB]; exact byt_lt _ _
  have W1 : Hid (∀ X, Calls Tryz.prog 107 #[.string s, .int .i64 ((p : Int) + 1), .int .i64 128, .int .i64 191] X fun e w' => e = .returned (.bool (inB (bys s) (p + 1) 128 191)) ∧ X = w') := fun X => by have := within_any s (p + 1) 128 191 X; simpa using this
  have W2 : Hid (∀ X, Calls Tryz.prog 107 #[.string s, .int .i64 ((p : Int) + 2), .int .i64 128, .int .i64 191] X fun e w' => e = .returned (.bool (inB (bys s) (p + 2) 128 191)) ∧ X = w') := fun X => by have := within_any s (p + 2) 128 191 X; simpa using this
  have W3 : Hid (∀ X, Calls Tryz.prog 107 #[.string s, .int .i64 ((p : Int) + 3), .int .i64 128, .int .i64 191] X fun e w' => e = .returned (.bool (inB (bys s) (p + 3) 128 191)) ∧ X = w') := fun X => by have := within_any s (p + 3) 128 191 X; simpa using this
  have W4 : Hid (∀ X, Calls Tryz.prog 107 #[.string s, .int .i64 ((p : Int) + 1), .int .i64 144, .int .i64 191] X fun e w' => e = .returned (.bool (inB (bys s) (p + 1) 144 191)) ∧ X = w') := fun X => by have := within_any s (p + 1) 144 191 X; simpa using this
  have ta : ¬ (B : Int) < 128 := by omega
  have tb : 194 ≤ (B : Int) := by omega
  have tc : ¬ (B : Int) ≤ 223 := by omega
  have td : ¬ (B : Int) = 224 := by omega
  have te : 225 ≤ (B : Int) := by omega
  have tf : ¬ (B : Int) ≤ 236 := by omega
  have tg : ¬ (B : Int) = 238 := by omega
  have th : ¬ (B : Int) = 239 := by omega
  have ti : ¬ (B : Int) = 237 := by omega
  have tj : (B : Int) = 240 := by omega
  have tk : ¬ 241 ≤ (B : Int) := by omega
  have tm : ¬ (B : Int) = 244 := by omega
  have hR : runeAt s (p : Int) = runeN (s.size - p) B (byt (bys s) (p + 1)) (byt (bys s) (p + 2)) (byt (bys s) (p + 3)) := by
    unfold runeAt
    rw [if_neg (by omega)]
    show runeL ((bys s).drop p) = _
    unfold runeL
    rw [byB_drop, byB_drop, byB_drop, byB_drop, byB_byt, byB_byt, byB_byt, byB_byt, List.length_drop, bys_len, Nat.add_zero, hB]
  rw [runeN_F0 _ _ _ _ _ (by omega) (by omega)] at hR
  have hl := bys_len s
  obtain ⟨x1, hx1⟩ : ∃ x, x = inB (bys s) (p + 1) 128 191 := ⟨_, rfl⟩
  rw [← hx1] at W1
  obtain ⟨x2, hx2⟩ : ∃ x, x = inB (bys s) (p + 2) 128 191 := ⟨_, rfl⟩
  rw [← hx2] at W2
  obtain ⟨x3, hx3⟩ : ∃ x, x = inB (bys s) (p + 3) 128 191 := ⟨_, rfl⟩
  rw [← hx3] at W3
  obtain ⟨x4, hx4⟩ : ∃ x, x = inB (bys s) (p + 1) 144 191 := ⟨_, rfl⟩
  rw [← hx4] at W4
  have hV : runeAt s (p : Int) = (if x4 = true ∧ x2 = true ∧ x3 = true then 4 else 0 : Nat) := by
    rw [hR]
    unfold inB at hx4
    unfold inB at hx2
    unfold inB at hx3
    have q : (x4 = true ∧ x2 = true ∧ x3 = true) ↔ (((p + 1) < (bys s).length ∧ 144 ≤ byt (bys s) (p + 1) ∧ byt (bys s) (p + 1) ≤ 191) ∧ ((p + 2) < (bys s).length ∧ 128 ≤ byt (bys s) (p + 2) ∧ byt (bys s) (p + 2) ≤ 191) ∧ ((p + 3) < (bys s).length ∧ 128 ≤ byt (bys s) (p + 3) ∧ byt (bys s) (p + 3) ≤ 191)) := by rw [hx4, hx2, hx3]; simp only [decide_eq_true_eq]
    by_cases hq : x4 = true ∧ x2 = true ∧ x3 = true
    · have := q.1 hq
      rw [if_pos hq, if_neg (by omega)]
    · have : ¬ (((p + 1) < (bys s).length ∧ 144 ≤ byt (bys s) (p + 1) ∧ byt (bys s) (p + 1) ≤ 191) ∧ ((p + 2) < (bys s).length ∧ 128 ≤ byt (bys s) (p + 2) ∧ byt (bys s) (p + 2) ≤ 191) ∧ ((p + 3) < (bys s).length ∧ 128 ≤ byt (bys s) (p + 3) ∧ byt (bys s) (p + 3) ≤ 191)) := fun h => hq (q.2 h)
      rw [if_neg hq, if_pos (by omega)]
  rw [hV]
  clear hR hV hl hx1 hx2 hx3 hx4
  clear hB hc
  cases x4
  · rw [if_neg (by simp)]
    go_enter Tryz.func82, Tryz.ntmps82
    go_wp2_with fail
    refine (W1.out _).mono ?_
    rintro e w1 ⟨rfl, rfl⟩
    go_wp2_with fail
    refine (W2.out _).mono ?_
    rintro e w2 ⟨rfl, rfl⟩
    go_wp2_with fail
    refine (W3.out _).mono ?_
    rintro e w3 ⟨rfl, rfl⟩
    go_wp2_with fail
    refine (W4.out _).mono ?_
    rintro e w4 ⟨rfl, rfl⟩
    go_wp2
    go_ret
    exact ⟨rfl, rfl⟩
  · skip
    cases x2
    · rw [if_neg (by simp)]
      go_enter Tryz.func82, Tryz.ntmps82
      go_wp2_with fail
      refine (W1.out _).mono ?_
      rintro e w1 ⟨rfl, rfl⟩
      go_wp2_with fail
      refine (W2.out _).mono ?_
      rintro e w2 ⟨rfl, rfl⟩
      go_wp2_with fail
      refine (W3.out _).mono ?_
      rintro e w3 ⟨rfl, rfl⟩
      go_wp2_with fail
      refine (W4.out _).mono ?_
      rintro e w4 ⟨rfl, rfl⟩
      go_wp2
      go_ret
      exact ⟨rfl, rfl⟩
    · skip
      cases x3
      · rw [if_neg (by simp)]
        go_enter Tryz.func82, Tryz.ntmps82
        go_wp2_with fail
        refine (W1.out _).mono ?_
        rintro e w1 ⟨rfl, rfl⟩
        go_wp2_with fail
        refine (W2.out _).mono ?_
        rintro e w2 ⟨rfl, rfl⟩
        go_wp2_with fail
        refine (W3.out _).mono ?_
        rintro e w3 ⟨rfl, rfl⟩
        go_wp2_with fail
        refine (W4.out _).mono ?_
        rintro e w4 ⟨rfl, rfl⟩
        go_wp2
        go_ret
        exact ⟨rfl, rfl⟩
      · skip
        rw [if_pos (by simp)]
        go_enter Tryz.func82, Tryz.ntmps82
        go_wp2_with fail
        refine (W1.out _).mono ?_
        rintro e w1 ⟨rfl, rfl⟩
        go_wp2_with fail
        refine (W2.out _).mono ?_
        rintro e w2 ⟨rfl, rfl⟩
        go_wp2_with fail
        refine (W3.out _).mono ?_
        rintro e w3 ⟨rfl, rfl⟩
        go_wp2_with fail
        refine (W4.out _).mono ?_
        rintro e w4 ⟨rfl, rfl⟩
        go_wp2
        go_ret
        exact ⟨rfl, rfl⟩

end Go.Proofs.YtobmdifledegbaaGreatDoor

namespace Go.Proofs.YtobmdifledegbaaGreatDoor
open Go.RowKit Go.Lib

set_option maxRecDepth 100000 in
set_option maxHeartbeats 2000000 in
theorem rr_F1 (s : ByteArray) (p B : Nat) (w : World) (hs : s.size ≤ 140737488355328) (hp : p < s.size) (hB : byt (bys s) p = B) (hc : 241 ≤ B ∧ B ≤ 243) : Calls Tryz.prog 82 #[.string s, .int .i64 (p : Int)] w fun e w' => e = .returned (.int .i64 ((runeAt s (p : Int) : Nat) : Int)) ∧ w = w' := by
  have hp' : (p : Int) < (s.size : Int) := by omega
  have hg : ∀ h : p < s.size, s[p].toNat = B := fun h => (byt_get s p h).trans hB
  have hb2 : B < 256 := by rw [← hB]; exact byt_lt _ _
  have W1 : Hid (∀ X, Calls Tryz.prog 107 #[.string s, .int .i64 ((p : Int) + 1), .int .i64 128, .int .i64 191] X fun e w' => e = .returned (.bool (inB (bys s) (p + 1) 128 191)) ∧ X = w') := fun X => by have := within_any s (p + 1) 128 191 X; simpa using this
  have W2 : Hid (∀ X, Calls Tryz.prog 107 #[.string s, .int .i64 ((p : Int) + 2), .int .i64 128, .int .i64 191] X fun e w' => e = .returned (.bool (inB (bys s) (p + 2) 128 191)) ∧ X = w') := fun X => by have := within_any s (p + 2) 128 191 X; simpa using this
  have W3 : Hid (∀ X, Calls Tryz.prog 107 #[.string s, .int .i64 ((p : Int) + 3), .int .i64 128, .int .i64 191] X fun e w' => e = .returned (.bool (inB (bys s) (p + 3) 128 191)) ∧ X = w') := fun X => by have := within_any s (p + 3) 128 191 X; simpa using this
  have ta : ¬ (B : Int) < 128 := by omega
  have tb : 194 ≤ (B : Int) := by omega
  have tc : ¬ (B : Int) ≤ 223 := by omega
  have td : ¬ (B : Int) = 224 := by omega
  have te : 225 ≤ (B : Int) := by omega
  have tf : ¬ (B : Int) ≤ 236 := by omega
  have tg : ¬ (B : Int) = 238 := by omega
  have th : ¬ (B : Int) = 239 := by omega
  have ti : ¬ (B : Int) = 237 := by omega
  have tj : ¬ (B : Int) = 240 := by omega
  have tk : 241 ≤ (B : Int) := by omega
  have tl : (B : Int) ≤ 243 := by omega
  have tm : ¬ (B : Int) = 244 := by omega
  have hR : runeAt s (p : Int) = runeN (s.size - p) B (byt (bys s) (p + 1)) (byt (bys s) (p + 2)) (byt (bys s) (p + 3)) := by
    unfold runeAt
    rw [if_neg (by omega)]
    show runeL ((bys s).drop p) = _
    unfold runeL
    rw [byB_drop, byB_drop, byB_drop, byB_drop, byB_byt, byB_byt, byB_byt, byB_byt, List.length_drop, bys_len, Nat.add_zero, hB]
  rw [runeN_F1 _ _ _ _ _ (by omega) (by omega)] at hR
  have hl := bys_len s
  obtain ⟨x1, hx1⟩ : ∃ x, x = inB (bys s) (p + 1) 128 191 := ⟨_, rfl⟩
  rw [← hx1] at W1
  obtain ⟨x2, hx2⟩ : ∃ x, x = inB (bys s) (p + 2) 128 191 := ⟨_, rfl⟩
  rw [← hx2] at W2
  obtain ⟨x3, hx3⟩ : ∃ x, x = inB (bys s) (p + 3) 128 191 := ⟨_, rfl⟩
  rw [← hx3] at W3
  have hV : runeAt s (p : Int) = (if x1 = true ∧ x2 = true ∧ x3 = true then 4 else 0 : Nat) := by
    rw [hR]
    unfold inB at hx1
    unfold inB at hx2
    unfold inB at hx3
    have q : (x1 = true ∧ x2 = true ∧ x3 = true) ↔ (((p + 1) < (bys s).length ∧ 128 ≤ byt (bys s) (p + 1) ∧ byt (bys s) (p + 1) ≤ 191) ∧ ((p + 2) < (bys s).length ∧ 128 ≤ byt (bys s) (p + 2) ∧ byt (bys s) (p + 2) ≤ 191) ∧ ((p + 3) < (bys s).length ∧ 128 ≤ byt (bys s) (p + 3) ∧ byt (bys s) (p + 3) ≤ 191)) := by rw [hx1, hx2, hx3]; simp only [decide_eq_true_eq]
    by_cases hq : x1 = true ∧ x2 = true ∧ x3 = true
    · have := q.1 hq
      rw [if_pos hq, if_neg (by omega)]
    · have : ¬ (((p + 1) < (bys s).length ∧ 128 ≤ byt (bys s) (p + 1) ∧ byt (bys s) (p + 1) ≤ 191) ∧ ((p + 2) < (bys s).length ∧ 128 ≤ byt (bys s) (p + 2) ∧ byt (bys s) (p + 2) ≤ 191) ∧ ((p + 3) < (bys s).length ∧ 128 ≤ byt (bys s) (p + 3) ∧ byt (bys s) (p + 3) ≤ 191)) := fun h => hq (q.2 h)
      rw [if_neg hq, if_pos (by omega)]
  rw [hV]
  clear hR hV hl hx1 hx2 hx3
  clear hB hc
  cases x1
  · rw [if_neg (by simp)]
    go_enter Tryz.func82, Tryz.ntmps82
    go_wp2_with fail
    refine (W1.out _).mono ?_
    rintro e w1 ⟨rfl, rfl⟩
    go_wp2_with fail
    refine (W2.out _).mono ?_
    rintro e w2 ⟨rfl, rfl⟩
    go_wp2_with fail
    refine (W3.out _).mono ?_
    rintro e w3 ⟨rfl, rfl⟩
    go_wp2
    go_ret
    exact ⟨rfl, rfl⟩
  · skip
    cases x2
    · rw [if_neg (by simp)]
      go_enter Tryz.func82, Tryz.ntmps82
      go_wp2_with fail
      refine (W1.out _).mono ?_
      rintro e w1 ⟨rfl, rfl⟩
      go_wp2_with fail
      refine (W2.out _).mono ?_
      rintro e w2 ⟨rfl, rfl⟩
      go_wp2_with fail
      refine (W3.out _).mono ?_
      rintro e w3 ⟨rfl, rfl⟩
      go_wp2
      go_ret
      exact ⟨rfl, rfl⟩
    · skip
      cases x3
      · rw [if_neg (by simp)]
        go_enter Tryz.func82, Tryz.ntmps82
        go_wp2_with fail
        refine (W1.out _).mono ?_
        rintro e w1 ⟨rfl, rfl⟩
        go_wp2_with fail
        refine (W2.out _).mono ?_
        rintro e w2 ⟨rfl, rfl⟩
        go_wp2_with fail
        refine (W3.out _).mono ?_
        rintro e w3 ⟨rfl, rfl⟩
        go_wp2
        go_ret
        exact ⟨rfl, rfl⟩
      · skip
        rw [if_pos (by simp)]
        go_enter Tryz.func82, Tryz.ntmps82
        go_wp2_with fail
        refine (W1.out _).mono ?_
        rintro e w1 ⟨rfl, rfl⟩
        go_wp2_with fail
        refine (W2.out _).mono ?_
        rintro e w2 ⟨rfl, rfl⟩
        go_wp2_with fail
        refine (W3.out _).mono ?_
        rintro e w3 ⟨rfl, rfl⟩
        go_wp2
        go_ret
        exact ⟨rfl, rfl⟩

set_option maxRecDepth 100000 in
set_option maxHeartbeats 2000000 in
theorem rr_F4 (s : ByteArray) (p B : Nat) (w : World) (hs : s.size ≤ 140737488355328) (hp : p < s.size) (hB : byt (bys s) p = B) (hc : B = 244) : Calls Tryz.prog 82 #[.string s, .int .i64 (p : Int)] w fun e w' => e = .returned (.int .i64 ((runeAt s (p : Int) : Nat) : Int)) ∧ w = w' := by
  have hp' : (p : Int) < (s.size : Int) := by omega
  have hg : ∀ h : p < s.size, s[p].toNat = B := fun h => (byt_get s p h).trans hB
  have hb2 : B < 256 := by rw [← hB]; exact byt_lt _ _
  have W1 : Hid (∀ X, Calls Tryz.prog 107 #[.string s, .int .i64 ((p : Int) + 1), .int .i64 128, .int .i64 191] X fun e w' => e = .returned (.bool (inB (bys s) (p + 1) 128 191)) ∧ X = w') := fun X => by have := within_any s (p + 1) 128 191 X; simpa using this
  have W2 : Hid (∀ X, Calls Tryz.prog 107 #[.string s, .int .i64 ((p : Int) + 2), .int .i64 128, .int .i64 191] X fun e w' => e = .returned (.bool (inB (bys s) (p + 2) 128 191)) ∧ X = w') := fun X => by have := within_any s (p + 2) 128 191 X; simpa using this
  have W3 : Hid (∀ X, Calls Tryz.prog 107 #[.string s, .int .i64 ((p : Int) + 3), .int .i64 128, .int .i64 191] X fun e w' => e = .returned (.bool (inB (bys s) (p + 3) 128 191)) ∧ X = w') := fun X => by have := within_any s (p + 3) 128 191 X; simpa using this
  have W4 : Hid (∀ X, Calls Tryz.prog 107 #[.string s, .int .i64 ((p : Int) + 1), .int .i64 128, .int .i64 143] X fun e w' => e = .returned (.bool (inB (bys s) (p + 1) 128 143)) ∧ X = w') := fun X => by have := within_any s (p + 1) 128 143 X; simpa using this
  have ta : ¬ (B : Int) < 128 := by omega
  have tb : 194 ≤ (B : Int) := by omega
  have tc : ¬ (B : Int) ≤ 223 := by omega
  have td : ¬ (B : Int) = 224 := by omega
  have te : 225 ≤ (B : Int) := by omega
  have tf : ¬ (B : Int) ≤ 236 := by omega
  have tg : ¬ (B : Int) = 238 := by omega
  have th : ¬ (B : Int) = 239 := by omega
  have ti : ¬ (B : Int) = 237 := by omega
  have tj : ¬ (B : Int) = 240 := by omega
  have tk : 241 ≤ (B : Int) := by omega
  have tl : ¬ (B : Int) ≤ 243 := by omega
  have tm : (B : Int) = 244 := by omega
  have hR : runeAt s (p : Int) = runeN (s.size - p) B (byt (bys s) (p + 1)) (byt (bys s) (p + 2)) (byt (bys s) (p + 3)) := by
    unfold runeAt
    rw [if_neg (by omega)]
    show runeL ((bys s).drop p) = _
    unfold runeL
    rw [byB_drop, byB_drop, byB_drop, byB_drop, byB_byt, byB_byt, byB_byt, byB_byt, List.length_drop, bys_len, Nat.add_zero, hB]
  rw [runeN_F4 _ _ _ _ _ (by omega) (by omega)] at hR
  have hl := bys_len s
  obtain ⟨x1, hx1⟩ : ∃ x, x = inB (bys s) (p + 1) 128 191 := ⟨_, rfl⟩
  rw [← hx1] at W1
  obtain ⟨x2, hx2⟩ : ∃ x, x = inB (bys s) (p + 2) 128 191 := ⟨_, rfl⟩
  rw [← hx2] at W2
  obtain ⟨x3, hx3⟩ : ∃ x, x = inB (bys s) (p + 3) 128 191 := ⟨_, rfl⟩
  rw [← hx3] at W3
  obtain ⟨x4, hx4⟩ : ∃ x, x = inB (bys s) (p + 1) 128 143 := ⟨_, rfl⟩
  rw [← hx4] at W4
  have hV : runeAt s (p : Int) = (if x4 = true ∧ x2 = true ∧ x3 = true then 4 else 0 : Nat) := by
    rw [hR]
    unfold inB at hx4
    unfold inB at hx2
    unfold inB at hx3
    have q : (x4 = true ∧ x2 = true ∧ x3 = true) ↔ (((p + 1) < (bys s).length ∧ 128 ≤ byt (bys s) (p + 1) ∧ byt (bys s) (p + 1) ≤ 143) ∧ ((p + 2) < (bys s).length ∧ 128 ≤ byt (bys s) (p + 2) ∧ byt (bys s) (p + 2) ≤ 191) ∧ ((p + 3) < (bys s).length ∧ 128 ≤ byt (bys s) (p + 3) ∧ byt (bys s) (p + 3) ≤ 191)) := by rw [hx4, hx2, hx3]; simp only [decide_eq_true_eq]
    by_cases hq : x4 = true ∧ x2 = true ∧ x3 = true
    · have := q.1 hq
      rw [if_pos hq, if_neg (by omega)]
    · have : ¬ (((p + 1) < (bys s).length ∧ 128 ≤ byt (bys s) (p + 1) ∧ byt (bys s) (p + 1) ≤ 143) ∧ ((p + 2) < (bys s).length ∧ 128 ≤ byt (bys s) (p + 2) ∧ byt (bys s) (p + 2) ≤ 191) ∧ ((p + 3) < (bys s).length ∧ 128 ≤ byt (bys s) (p + 3) ∧ byt (bys s) (p + 3) ≤ 191)) := fun h => hq (q.2 h)
      rw [if_neg hq, if_pos (by omega)]
  rw [hV]
  clear hR hV hl hx1 hx2 hx3 hx4
  clear hB hc
  cases x4
  · rw [if_neg (by simp)]
    go_enter Tryz.func82, Tryz.ntmps82
    go_wp2_with fail
    refine (W1.out _).mono ?_
    rintro e w1 ⟨rfl, rfl⟩
    go_wp2_with fail
    refine (W2.out _).mono ?_
    rintro e w2 ⟨rfl, rfl⟩
    go_wp2_with fail
    refine (W3.out _).mono ?_
    rintro e w3 ⟨rfl, rfl⟩
    go_wp2_with fail
    refine (W4.out _).mono ?_
    rintro e w4 ⟨rfl, rfl⟩
    go_wp2
    go_ret
    exact ⟨rfl, rfl⟩
  · skip
    cases x2
    · rw [if_neg (by simp)]
      go_enter Tryz.func82, Tryz.ntmps82
      go_wp2_with fail
      refine (W1.out _).mono ?_
      rintro e w1 ⟨rfl, rfl⟩
      go_wp2_with fail
      refine (W2.out _).mono ?_
      rintro e w2 ⟨rfl, rfl⟩
      go_wp2_with fail
      refine (W3.out _).mono ?_
      rintro e w3 ⟨rfl, rfl⟩
      go_wp2_with fail
      refine (W4.out _).mono ?_
      rintro e w4 ⟨rfl, rfl⟩
      go_wp2
      go_ret
      exact ⟨rfl, rfl⟩
    · skip
      cases x3
      · rw [if_neg (by simp)]
        go_enter Tryz.func82, Tryz.ntmps82
        go_wp2_with fail
        refine (W1.out _).mono ?_
        rintro e w1 ⟨rfl, rfl⟩
        go_wp2_with fail
        refine (W2.out _).mono ?_
        rintro e w2 ⟨rfl, rfl⟩
        go_wp2_with fail
        refine (W3.out _).mono ?_
        rintro e w3 ⟨rfl, rfl⟩
        go_wp2_with fail
        refine (W4.out _).mono ?_
        rintro e w4 ⟨rfl, rfl⟩
        go_wp2
        go_ret
        exact ⟨rfl, rfl⟩
      · skip
        rw [if_pos (by simp)]
        go_enter Tryz.func82, Tryz.ntmps82
        go_wp2_with fail
        refine (W1.out _).mono ?_
        rintro e w1 ⟨rfl, rfl⟩
        go_wp2_with fail
        refine (W2.out _).mono ?_
        rintro e w2 ⟨rfl, rfl⟩
        go_wp2_with fail
        refine (W3.out _).mono ?_
        rintro e w3 ⟨rfl, rfl⟩
        go_wp2_with fail
        refine (W4.out _).mono ?_
        rintro e w4 ⟨rfl, rfl⟩
        go_wp2
        go_ret
        exact ⟨rfl, rfl⟩

set_option maxRecDepth 100000 in
set_option maxHeartbeats 2000000 in
theorem rr_Na (s : ByteArray) (p B : Nat) (w : World) (hs : s.size ≤ 140737488355328) (hp : p < s.size) (hB : byt (bys s) p = B) (hc : 128 ≤ B ∧ B < 194) : Calls Tryz.prog 82 #[.string s, .int .i64 (p : Int)] w fun e w' => e = .returned (.int .i64 ((runeAt s (p : Int) : Nat) : Int)) ∧ w = w' := by
  have hp' : (p : Int) < (s.size : Int) := by omega
  have hg : ∀ h : p < s.size, s[p].toNat = B := fun h => (byt_get s p h).trans hB
  have hb2 : B < 256 := by rw [← hB]; exact byt_lt _ _
  have W1 : Hid (∀ X, Calls Tryz.prog 107 #[.string s, .int .i64 ((p : Int) + 1), .int .i64 128, .int .i64 191] X fun e w' => e = .returned (.bool (inB (bys s) (p + 1) 128 191)) ∧ X = w') := fun X => by have := within_any s (p + 1) 128 191 X; simpa using this
  have W2 : Hid (∀ X, Calls Tryz.prog 107 #[.string s, .int .i64 ((p : Int) + 2), .int .i64 128, .int .i64 191] X fun e w' => e = .returned (.bool (inB (bys s) (p + 2) 128 191)) ∧ X = w') := fun X => by have := within_any s (p + 2) 128 191 X; simpa using this
  have W3 : Hid (∀ X, Calls Tryz.prog 107 #[.string s, .int .i64 ((p : Int) + 3), .int .i64 128, .int .i64 191] X fun e w' => e = .returned (.bool (inB (bys s) (p + 3) 128 191)) ∧ X = w') := fun X => by have := within_any s (p + 3) 128 191 X; simpa using this
  have ta : ¬ (B : Int) < 128 := by omega
  have tb : ¬ 194 ≤ (B : Int) := by omega
  have td : ¬ (B : Int) = 224 := by omega
  have te : ¬ 225 ≤ (B : Int) := by omega
  have tg : ¬ (B : Int) = 238 := by omega
  have th : ¬ (B : Int) = 239 := by omega
  have ti : ¬ (B : Int) = 237 := by omega
  have tj : ¬ (B : Int) = 240 := by omega
  have tk : ¬ 241 ≤ (B : Int) := by omega
  have tm : ¬ (B : Int) = 244 := by omega
  have hR : runeAt s (p : Int) = runeN (s.size - p) B (byt (bys s) (p + 1)) (byt (bys s) (p + 2)) (byt (bys s) (p + 3)) := by
    unfold runeAt
    rw [if_neg (by omega)]
    show runeL ((bys s).drop p) = _
    unfold runeL
    rw [byB_drop, byB_drop, byB_drop, byB_drop, byB_byt, byB_byt, byB_byt, byB_byt, List.length_drop, bys_len, Nat.add_zero, hB]
  rw [runeN_No _ _ _ _ _ (by omega) (by omega)] at hR
  rw [hR]
  clear hR
  clear hB hc
  go_enter Tryz.func82, Tryz.ntmps82
  go_wp2_with fail
  refine (W1.out _).mono ?_
  rintro e w1 ⟨rfl, rfl⟩
  go_wp2_with fail
  refine (W2.out _).mono ?_
  rintro e w2 ⟨rfl, rfl⟩
  go_wp2_with fail
  refine (W3.out _).mono ?_
  rintro e w3 ⟨rfl, rfl⟩
  go_wp2
  go_ret
  exact ⟨rfl, rfl⟩

set_option maxRecDepth 100000 in
set_option maxHeartbeats 2000000 in
theorem rr_Nb (s : ByteArray) (p B : Nat) (w : World) (hs : s.size ≤ 140737488355328) (hp : p < s.size) (hB : byt (bys s) p = B) (hc : 244 < B) : Calls Tryz.prog 82 #[.string s, .int .i64 (p : Int)] w fun e w' => e = .returned (.int .i64 ((runeAt s (p : Int) : Nat) : Int)) ∧ w = w' := by
  have hp' : (p : Int) < (s.size : Int) := by omega
  have hg : ∀ h : p < s.size, s[p].toNat = B := fun h => (byt_get s p h).trans hB
  have hb2 : B < 256 := by rw [← hB]; exact byt_lt _ _
  have W1 : Hid (∀ X, Calls Tryz.prog 107 #[.string s, .int .i64 ((p : Int) + 1), .int .i64 128, .int .i64 191] X fun e w' => e = .returned (.bool (inB (bys s) (p + 1) 128 191)) ∧ X = w') := fun X => by have := within_any s (p + 1) 128 191 X; simpa using this
  have W2 : Hid (∀ X, Calls Tryz.prog 107 #[.string s, .int .i64 ((p : Int) + 2), .int .i64 128, .int .i64 191] X fun e w' => e = .returned (.bool (inB (bys s) (p + 2) 128 191)) ∧ X = w') := fun X => by have := within_any s (p + 2) 128 191 X; simpa using this
  have W3 : Hid (∀ X, Calls Tryz.prog 107 #[.string s, .int .i64 ((p : Int) + 3), .int .i64 128, .int .i64 191] X fun e w' => e = .returned (.bool (inB (bys s) (p + 3) 128 191)) ∧ X = w') := fun X => by have := within_any s (p + 3) 128 191 X; simpa using this
  have ta : ¬ (B : Int) < 128 := by omega
  have tb : 194 ≤ (B : Int) := by omega
  have tc : ¬ (B : Int) ≤ 223 := by omega
  have td : ¬ (B : Int) = 224 := by omega
  have te : 225 ≤ (B : Int) := by omega
  have tf : ¬ (B : Int) ≤ 236 := by omega
  have tg : ¬ (B : Int) = 238 := by omega
  have th : ¬ (B : Int) = 239 := by omega
  have ti : ¬ (B : Int) = 237 := by omega
  have tj : ¬ (B : Int) = 240 := by omega
  have tk : 241 ≤ (B : Int) := by omega
  have tl : ¬ (B : Int) ≤ 243 := by omega
  have tm : ¬ (B : Int) = 244 := by omega
  have hR : runeAt s (p : Int) = runeN (s.size - p) B (byt (bys s) (p + 1)) (byt (bys s) (p + 2)) (byt (bys s) (p + 3)) := by
    unfold runeAt
    rw [if_neg (by omega)]
    show runeL ((bys s).drop p) = _
    unfold runeL
    rw [byB_drop, byB_drop, byB_drop, byB_drop, byB_byt, byB_byt, byB_byt, byB_byt, List.length_drop, bys_len, Nat.add_zero, hB]
  rw [runeN_No _ _ _ _ _ (by omega) (by omega)] at hR
  rw [hR]
  clear hR
  clear hB hc
  go_enter Tryz.func82, Tryz.ntmps82
  go_wp2_with fail
  refine (W1.out _).mono ?_
  rintro e w1 ⟨rfl, rfl⟩
  go_wp2_with fail
  refine (W2.out _).mono ?_
  rintro e w2 ⟨rfl, rfl⟩
  go_wp2_with fail
  refine (W3.out _).mono ?_
  rintro e w3 ⟨rfl, rfl⟩
  go_wp2
  go_ret
  exact ⟨rfl, rfl⟩

end Go.Proofs.YtobmdifledegbaaGreatDoor

namespace Go.Proofs.YtobmdifledegbaaGreatDoor
open Go.RowKit Go.Lib

theorem rRune_any (s : ByteArray) (i : Int) (w : World) (hs : s.size ≤ 140737488355328) : Calls Tryz.prog 82 #[.string s, .int .i64 i] w fun e w' => e = .returned (.int .i64 ((runeAt s i : Nat) : Int)) ∧ w = w' := by
  by_cases h0 : i < 0
  · have e : runeAt s i = 0 := by unfold runeAt; rw [if_pos (.inl h0)]
    rw [e]
    go_enter Tryz.func82, Tryz.ntmps82
    go_wp2
    go_ret
    exact ⟨rfl, rfl⟩
  by_cases h1 : (s.size : Int) ≤ i
  · have e : runeAt s i = 0 := by unfold runeAt; rw [if_pos (.inr h1)]
    rw [e]
    go_enter Tryz.func82, Tryz.ntmps82
    go_wp2
    go_ret
    exact ⟨rfl, rfl⟩
  obtain ⟨p, rfl⟩ : ∃ p : Nat, i = (p : Int) := ⟨i.toNat, by omega⟩
  have hp : p < s.size := by omega
  obtain ⟨B, hB⟩ : ∃ B, byt (bys s) p = B := ⟨_, rfl⟩
  by_cases cAs : B < 128
  · exact rr_As s p B w hs hp hB cAs
  by_cases cC2 : 194 ≤ B ∧ B ≤ 223
  · exact rr_C2 s p B w hs hp hB cC2
  by_cases cE0 : B = 224
  · exact rr_E0 s p B w hs hp hB cE0
  by_cases cE1a : 225 ≤ B ∧ B ≤ 236
  · exact rr_E1a s p B w hs hp hB cE1a
  by_cases cE1b : B = 238
  · exact rr_E1b s p B w hs hp hB cE1b
  by_cases cE1c : B = 239
  · exact rr_E1c s p B w hs hp hB cE1c
  by_cases cED : B = 237
  · exact rr_ED s p B w hs hp hB cED
  by_cases cF0 : B = 240
  · exact rr_F0 s p B w hs hp hB cF0
  by_cases cF1 : 241 ≤ B ∧ B ≤ 243
  · exact rr_F1 s p B w hs hp hB cF1
  by_cases cF4 : B = 244
  · exact rr_F4 s p B w hs hp hB cF4
  by_cases cNa : 128 ≤ B ∧ B < 194
  · exact rr_Na s p B w hs hp hB cNa
  have hb2 : B < 256 := by rw [← hB]; exact byt_lt _ _
  exact rr_Nb s p B w hs hp hB (by omega)
end Go.Proofs.YtobmdifledegbaaGreatDoor

namespace Go.Proofs.YtobmdifledegbaaGreatDoor
open Go.RowKit

theorem runeAt_in (s : ByteArray) (p : Nat) (h : p < s.size) : runeAt s (p : Int) = runeL ((bys s).drop p) := by
  unfold runeAt
  rw [if_neg (by omega)]
  rfl

set_option maxHeartbeats 1000000 in
theorem rRunes_any (s : ByteArray) (w : World) (hs : s.size ≤ 140737488355328) : Calls Tryz.prog 59 #[.string s] w fun e w' => e = .returned (.int .i64 (runesI (bys s))) ∧ w = w' := by
  have HR : Hid (∀ (q : Nat) X, Calls Tryz.prog 82 #[.string s, .int .i64 (q : Int)] X fun e w' => e = .returned (.int .i64 ((runeAt s (q : Int) : Nat) : Int)) ∧ X = w') := fun q X => rRune_any s q X hs
  have HL := hide (bys_len s)
  go_enter Tryz.func59, Tryz.ntmps59
  go_wp2
  go_loopw [3, 4] (fun a b wr => ∃ n q : Nat, q ≤ s.size ∧ n ≤ q ∧ a = .int .i64 (n : Int) ∧ b = .int .i64 (q : Int) ∧ wr = w ∧ Hid (runesL (bys s) = (runesL ((bys s).drop q)).map (· + n))) (fun _ b _ => s.size - (intOf b).toNat)
  case atStart => exact ⟨0, 0, Nat.zero_le _, Nat.le_refl _, rfl, rfl, rfl, hide (by rw [List.drop_zero]; cases runesL (bys s) <;> rfl)⟩
  case round =>
    obtain ⟨n, q, hq, hn, rfl, rfl, hw, hE⟩ := hrel
    subst hw
    by_cases hlt : q < s.size
    · have hlt' : (q : Int) < (s.size : Int) := by omega
      have hne : (bys s).drop q ≠ [] := by
        intro e
        have h1 := congrArg List.length e
        rw [List.length_drop, HL.out, List.length_nil] at h1
        omega
      have hst := runesL_step _ hne
      have hle := (runeL_le ((bys s).drop q)).1
      rw [List.length_drop, HL.out] at hle
      have HQ := hide (HR.out q wr)
      rw [runeAt_in s q hlt] at HQ
      clear HR
      by_cases h0 : runeL ((bys s).drop q) = 0
      · rw [h0] at HQ
        rw [if_pos h0] at hst
        have HI : Hid (runesI (bys s) = -1) := hide (by unfold runesI; rw [hE.out, hst]; rfl)
        clear hE hst hne hle h0
        go_wp2_with fail
        refine HQ.out.mono ?_
        rintro e w1 ⟨rfl, rfl⟩
        go_wp2
        go_ret
        exact ⟨by rw [HI.out]; rfl, rfl⟩
      · rw [if_neg h0] at hst
        have hE2 : Hid (runesL (bys s) = (runesL ((bys s).drop (q + runeL ((bys s).drop q)))).map (· + (n + 1))) := hide (by
          rw [hE.out, hst, List.drop_drop]
          cases runesL ((bys s).drop (q + runeL ((bys s).drop q))) with
          | none => rfl
          | some x => show some (x + 1 + n) = some (x + (n + 1)); congr 1; omega)
        clear hE hst hne
        generalize runeL ((bys s).drop q) = K at *
        have h0' : ¬ (K : Int) = 0 := by omega
        go_wp2_with fail
        refine HQ.out.mono ?_
        rintro e w1 ⟨rfl, rfl⟩
        go_wp2
        exact ⟨⟨n + 1, q + K, by omega, by omega, by go_num, by go_num, trivial, hE2⟩, by simp [intOf]; omega⟩
    · have hlt' : ¬ (q : Int) < (s.size : Int) := by omega
      have HI : Hid (runesI (bys s) = (n : Int)) := hide (by
        unfold runesI
        rw [hE.out, List.drop_eq_nil_of_le (by rw [HL.out]; omega), runesL_nil]
        show ((0 + n : Nat) : Int) = _
        omega)
      clear hE HR
      go_wp2
      go_ret
      exact ⟨by rw [HI.out]; rfl, rfl⟩

theorem Blk.setL {w : World} {b i : Nat} {cs : Array Value} {t : TypeId} (h : Blk w b cs t) (v : Value) : Blk (w.setCell ⟨b, i, none⟩ v) b (cs.setIfInBounds i v) t := by
  unfold Blk at *
  simp only [World.setCell, Array.getElem?_modify, if_true, h, Option.map_some]
  rfl


def rcel2 (n : Int) : Nat → Array Value
  | 0 => #[.int .u8 0, .int .u8 0]
  | 1 => #[.int .u8 ((bN n 1).toNat : Int), .int .u8 0]
  | _ => #[.int .u8 ((bN n 1).toNat : Int), .int .u8 ((bN n 0).toNat : Int)]

theorem mk2 (w : World) : (Instr.makeSlice 52 (.int .i64 2) (.int .i64 2)).run Tryz.prog w = .ok (.slice (some ⟨w.heap.size, 0, none⟩) 2 2) (w.alloc (.cells #[.int .u8 0, .int .u8 0] 5)) := by kernel_rfl

set_option maxHeartbeats 2000000 in
theorem rPut2 (n : Int) (w : World) : Calls Tryz.prog 32 #[.int .i64 n, .int .i64 2] w fun e w' => e = .returned (.string ⟨#[bN n 1, bN n 0]⟩) ∧ Below w.heap.size w w' := by

  have hb0 : n % 256 = (((bN n 0).toNat : Nat) : Int) := by rw [bN_nat]; simp
  have hb1 : (n / 256) % 256 = (((bN n 1).toNat : Nat) : Int) := by rw [bN_nat]; rfl
  have hmk := mk2 w
  go_enter Tryz.func32, Tryz.ntmps32
  go_wp2
  clear hmk
  have HB0 : Hid (Below w.heap.size w (w.alloc (.cells #[.int .u8 0, .int .u8 0] 5))) := (Below.refl _ _).alloc (Nat.le_refl _) _
  have HQ0 : Hid (Blk (w.alloc (.cells #[.int .u8 0, .int .u8 0] 5)) w.heap.size (rcel2 n 0) 5) := Blk.new _ _ _
  go_loopw [6] (fun a wr => ∃ i : Nat, i ≤ 2 ∧ a = .int .i64 (i : Int) ∧ Hid (Blk wr w.heap.size (rcel2 n i) 5) ∧ Hid (Below w.heap.size w wr)) (fun a _ => 2 - (intOf a).toNat)
  case atStart => exact ⟨0, Nat.zero_le _, rfl, HQ0, HB0⟩
  case round =>
    obtain ⟨i, hi, rfl, Q, HB⟩ := hrel
    clear HQ0 HB0
    by_cases hlt : i < 2
    · have hcs : i = 0 ∨ i = 1 := by omega
      rcases hcs with rfl | rfl
      · have c0 : wr.cell? ⟨w.heap.size, 0, none⟩ = some (.int .u8 0) := Q.out.cell 0
        have f0 := Q.out.free 0
        have Q2 : Hid (Blk (wr.setCell ⟨w.heap.size, 0, none⟩ (.int .u8 ((bN n 1).toNat : Int))) w.heap.size (rcel2 n 1) 5) := hide (Q.out.setL _)
        have HB2 : Hid (Below w.heap.size w (wr.setCell ⟨w.heap.size, 0, none⟩ (.int .u8 ((bN n 1).toNat : Int)))) := hide (HB.out.setCell (p := ⟨w.heap.size, 0, none⟩) (Nat.le_refl _) _)
        clear Q HB
        go_wp2
        exact ⟨⟨1, by omega, rfl, Q2, HB2⟩, by simp [intOf]⟩
      · have c0 : wr.cell? ⟨w.heap.size, 1, none⟩ = some (.int .u8 0) := Q.out.cell 1
        have f0 := Q.out.free 1
        have Q2 : Hid (Blk (wr.setCell ⟨w.heap.size, 1, none⟩ (.int .u8 ((bN n 0).toNat : Int))) w.heap.size (rcel2 n 2) 5) := hide (Q.out.setL _)
        have HB2 : Hid (Below w.heap.size w (wr.setCell ⟨w.heap.size, 1, none⟩ (.int .u8 ((bN n 0).toNat : Int)))) := hide (HB.out.setCell (p := ⟨w.heap.size, 1, none⟩) (Nat.le_refl _) _)
        clear Q HB
        go_wp2
        exact ⟨⟨2, by omega, rfl, Q2, HB2⟩, by simp [intOf]⟩
    · obtain rfl : i = 2 := by omega
      have hcv : (convert 52 9 (.slice (some ⟨w.heap.size, 0, none⟩) 2 2)).run Tryz.prog wr = .ok (.string ⟨#[bN n 1, bN n 0]⟩) wr :=
        convB_at (l := [bN n 1, bN n 0]) (fun i hi => by
          have hc := Q.out.cell i
          rw [Nat.zero_add, hc]
          have : i = 0 ∨ i = 1 := by simp at hi; omega
          rcases this with rfl | rfl <;> rfl)
      clear Q
      go_wp2
      go_ret
      exact ⟨rfl, HB.out⟩

def rcel4 (n : Int) : Nat → Array Value
  | 0 => #[.int .u8 0, .int .u8 0, .int .u8 0, .int .u8 0]
  | 1 => #[.int .u8 ((bN n 3).toNat : Int), .int .u8 0, .int .u8 0, .int .u8 0]
  | 2 => #[.int .u8 ((bN n 3).toNat : Int), .int .u8 ((bN n 2).toNat : Int), .int .u8 0, .int .u8 0]
  | 3 => #[.int .u8 ((bN n 3).toNat : Int), .int .u8 ((bN n 2).toNat : Int), .int .u8 ((bN n 1).toNat : Int), .int .u8 0]
  | _ => #[.int .u8 ((bN n 3).toNat : Int), .int .u8 ((bN n 2).toNat : Int), .int .u8 ((bN n 1).toNat : Int), .int .u8 ((bN n 0).toNat : Int)]

theorem mk4 (w : World) : (Instr.makeSlice 52 (.int .i64 4) (.int .i64 4)).run Tryz.prog w = .ok (.slice (some ⟨w.heap.size, 0, none⟩) 4 4) (w.alloc (.cells #[.int .u8 0, .int .u8 0, .int .u8 0, .int .u8 0] 5)) := by kernel_rfl

set_option maxHeartbeats 2000000 in
theorem rPut4 (n : Int) (w : World) : Calls Tryz.prog 32 #[.int .i64 n, .int .i64 4] w fun e w' => e = .returned (.string ⟨#[bN n 3, bN n 2, bN n 1, bN n 0]⟩) ∧ Below w.heap.size w w' := by

  have hb0 : n % 256 = (((bN n 0).toNat : Nat) : Int) := by rw [bN_nat]; simp
  have hb1 : (n / 256) % 256 = (((bN n 1).toNat : Nat) : Int) := by rw [bN_nat]; rfl
  have hb2 : (n / 65536) % 256 = (((bN n 2).toNat : Nat) : Int) := by rw [bN_nat]; rfl
  have hb3 : (n / 16777216) % 256 = (((bN n 3).toNat : Nat) : Int) := by rw [bN_nat]; rfl
  have hmk := mk4 w
  go_enter Tryz.func32, Tryz.ntmps32
  go_wp2
  clear hmk
  have HB0 : Hid (Below w.heap.size w (w.alloc (.cells #[.int .u8 0, .int .u8 0, .int .u8 0, .int .u8 0] 5))) := (Below.refl _ _).alloc (Nat.le_refl _) _
  have HQ0 : Hid (Blk (w.alloc (.cells #[.int .u8 0, .int .u8 0, .int .u8 0, .int .u8 0] 5)) w.heap.size (rcel4 n 0) 5) := Blk.new _ _ _
  go_loopw [6] (fun a wr => ∃ i : Nat, i ≤ 4 ∧ a = .int .i64 (i : Int) ∧ Hid (Blk wr w.heap.size (rcel4 n i) 5) ∧ Hid (Below w.heap.size w wr)) (fun a _ => 4 - (intOf a).toNat)
  case atStart => exact ⟨0, Nat.zero_le _, rfl, HQ0, HB0⟩
  case round =>
    obtain ⟨i, hi, rfl, Q, HB⟩ := hrel
    clear HQ0 HB0
    by_cases hlt : i < 4
    · have hcs : i = 0 ∨ i = 1 ∨ i = 2 ∨ i = 3 := by omega
      rcases hcs with rfl | rfl | rfl | rfl
      · have c0 : wr.cell? ⟨w.heap.size, 0, none⟩ = some (.int .u8 0) := Q.out.cell 0
        have f0 := Q.out.free 0
        have Q2 : Hid (Blk (wr.setCell ⟨w.heap.size, 0, none⟩ (.int .u8 ((bN n 3).toNat : Int))) w.heap.size (rcel4 n 1) 5) := hide (Q.out.setL _)
        have HB2 : Hid (Below w.heap.size w (wr.setCell ⟨w.heap.size, 0, none⟩ (.int .u8 ((bN n 3).toNat : Int)))) := hide (HB.out.setCell (p := ⟨w.heap.size, 0, none⟩) (Nat.le_refl _) _)
        clear Q HB
        go_wp2
        exact ⟨⟨1, by omega, rfl, Q2, HB2⟩, by simp [intOf]⟩
      · have c0 : wr.cell? ⟨w.heap.size, 1, none⟩ = some (.int .u8 0) := Q.out.cell 1
        have f0 := Q.out.free 1
        have Q2 : Hid (Blk (wr.setCell ⟨w.heap.size, 1, none⟩ (.int .u8 ((bN n 2).toNat : Int))) w.heap.size (rcel4 n 2) 5) := hide (Q.out.setL _)
        have HB2 : Hid (Below w.heap.size w (wr.setCell ⟨w.heap.size, 1, none⟩ (.int .u8 ((bN n 2).toNat : Int)))) := hide (HB.out.setCell (p := ⟨w.heap.size, 1, none⟩) (Nat.le_refl _) _)
        clear Q HB
        go_wp2
        exact ⟨⟨2, by omega, rfl, Q2, HB2⟩, by simp [intOf]⟩
      · have c0 : wr.cell? ⟨w.heap.size, 2, none⟩ = some (.int .u8 0) := Q.out.cell 2
        have f0 := Q.out.free 2
        have Q2 : Hid (Blk (wr.setCell ⟨w.heap.size, 2, none⟩ (.int .u8 ((bN n 1).toNat : Int))) w.heap.size (rcel4 n 3) 5) := hide (Q.out.setL _)
        have HB2 : Hid (Below w.heap.size w (wr.setCell ⟨w.heap.size, 2, none⟩ (.int .u8 ((bN n 1).toNat : Int)))) := hide (HB.out.setCell (p := ⟨w.heap.size, 2, none⟩) (Nat.le_refl _) _)
        clear Q HB
        go_wp2
        exact ⟨⟨3, by omega, rfl, Q2, HB2⟩, by simp [intOf]⟩
      · have c0 : wr.cell? ⟨w.heap.size, 3, none⟩ = some (.int .u8 0) := Q.out.cell 3
        have f0 := Q.out.free 3
        have Q2 : Hid (Blk (wr.setCell ⟨w.heap.size, 3, none⟩ (.int .u8 ((bN n 0).toNat : Int))) w.heap.size (rcel4 n 4) 5) := hide (Q.out.setL _)
        have HB2 : Hid (Below w.heap.size w (wr.setCell ⟨w.heap.size, 3, none⟩ (.int .u8 ((bN n 0).toNat : Int)))) := hide (HB.out.setCell (p := ⟨w.heap.size, 3, none⟩) (Nat.le_refl _) _)
        clear Q HB
        go_wp2
        exact ⟨⟨4, by omega, rfl, Q2, HB2⟩, by simp [intOf]⟩
    · obtain rfl : i = 4 := by omega
      have hcv : (convert 52 9 (.slice (some ⟨w.heap.size, 0, none⟩) 4 4)).run Tryz.prog wr = .ok (.string ⟨#[bN n 3, bN n 2, bN n 1, bN n 0]⟩) wr :=
        convB_at (l := [bN n 3, bN n 2, bN n 1, bN n 0]) (fun i hi => by
          have hc := Q.out.cell i
          rw [Nat.zero_add, hc]
          have : i = 0 ∨ i = 1 ∨ i = 2 ∨ i = 3 := by simp at hi; omega
          rcases this with rfl | rfl | rfl | rfl <;> rfl)
      clear Q
      go_wp2
      go_ret
      exact ⟨rfl, HB.out⟩

set_option maxHeartbeats 1000000 in
theorem rPutText_any (s : ByteArray) (w : World) (hs : s.size ≤ 140737488355328) : Calls Tryz.prog 33 #[.string s] w fun e w' => e = .returned (.tuple #[.string (ptxV s), .int .i64 (ptxE s : Int)]) ∧ Below w.heap.size w w' := by
  by_cases h1 : 1024 < s.size
  · have e1 : ptxE s = 112 := by unfold ptxE; rw [if_pos h1]
    have e2 : ptxV s = ⟨#[]⟩ := by unfold ptxV; rw [e1, if_neg (by decide)]
    rw [e1, e2]
    have h1' : 1024 < (s.size : Int) := by omega
    clear e1 e2
    go_enter Tryz.func33, Tryz.ntmps33
    go_wp2
    go_ret2
    exact ⟨rfl, Below.refl _ _⟩
  have h1' : ¬ 1024 < (s.size : Int) := by omega
  have HV := hide (rRunes_any s w hs)
  cases h2 : runesL (bys s) with
  | none =>
    have e1 : ptxE s = 111 := by unfold ptxE; rw [if_neg h1, if_pos (by rw [h2]; rfl)]
    have e2 : ptxV s = ⟨#[]⟩ := by unfold ptxV; rw [e1, if_neg (by decide)]
    have hi : runesI (bys s) = -1 := by unfold runesI; rw [h2]
    rw [e1, e2]
    rw [hi] at HV
    clear e1 e2 hi
    go_enter Tryz.func33, Tryz.ntmps33
    go_wp2_with fail
    refine HV.out.mono ?_
    rintro e w1 ⟨rfl, rfl⟩
    go_wp2
    go_ret2
    exact ⟨rfl, Below.refl _ _⟩
  | some m =>
    have e1 : ptxE s = 0 := by unfold ptxE; rw [if_neg h1, if_neg (by rw [h2]; simp)]
    have e2 : ptxV s = put2 (s.size : Int) ++ s := by unfold ptxV; rw [e1, if_pos rfl]
    have hi : runesI (bys s) = (m : Int) := by unfold runesI; rw [h2]
    rw [e1, e2]
    rw [hi] at HV
    have hm : ¬ (m : Int) < 0 := by omega
    have HP : Hid (∀ X, Calls Tryz.prog 32 #[.int .i64 (s.size : Int), .int .i64 2] X fun e w' => e = .returned (.string (put2 (s.size : Int))) ∧ Below X.heap.size X w') := fun X => rPut2 _ X
    have hz : ¬ 9223372036854775807 < (put2 (s.size : Int)).size + s.size := by show ¬ _ < 2 + s.size; omega
    generalize put2 (s.size : Int) = A at *
    clear e1 e2 hi
    go_enter Tryz.func33, Tryz.ntmps33
    go_wp2_with fail
    refine HV.out.mono ?_
    rintro e w1 ⟨rfl, rfl⟩
    clear HV
    go_wp2_with fail
    refine (HP.out _).mono ?_
    rintro e w2 ⟨rfl, hb⟩
    clear HP
    go_wp2
    go_ret2
    exact ⟨rfl, hb⟩

end Go.Proofs.YtobmdifledegbaaGreatDoor
