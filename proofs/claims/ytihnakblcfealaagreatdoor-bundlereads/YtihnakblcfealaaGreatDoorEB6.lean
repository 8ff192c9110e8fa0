/-
  What bundle's writer lays of its texts.
  The pool of texts, as a list: each once, rising strictly.
  Rising lists of texts: where a text stands, and with one text more.
  What quipuref12's place answers: where a text stands, or would, in a rising list.
  What the reference's at answers: the text at a place of a list, and whether there is one.
  A cursor in memory; what New, At, Fault, End, left and take do.
  What cursor's number does.
  What cursor's attempt does, and its deferred function.
-/
import Derived.Test.YtihnakblcfealaaGreatDoorEB5
import Derived.Test.YtihnakblcfealaaGreatDoorEB2
import Derived.Laws.BitsAllLaws
import Derived.Laws.Runes
import Derived.Defers
import Derived.Recover
namespace Go.Proofs.YtihnakblcfealaaGreatDoor
open Go.RowKit Go.Maps

theorem Kw.to_below {D B : Nat} {a b : World} (h : Kw D a b) (hB : B ≤ D) (hs : B ≤ a.heap.size) : Below B a b := ⟨h.os, h.tape, h.output, h.size, fun i hi => h.low i (by omega) (by omega)⟩

theorem RowS.kw {D B : Nat} {a b : World} {v : Value} {ps : List (List UInt8)} (h : RowS a B v ps) (hk : Kw D a b) (hB : D < B) : RowS b B v ps := by
  refine ⟨h.1, ?_⟩
  rcases h.2 with q | ⟨g, cap, cur, h1, h2, h3, h4⟩
  · exact .inl q
  · refine .inr ⟨g, cap, cur, h1, h2, ?_, h4⟩
    rw [hk.block g (lt_of_block h3) (by omega) (fun cs fz q => by rw [h3] at q; simp at q)]
    exact h3
theorem RowS.but {G B : Nat} {a b : World} {v : Value} {ps : List (List UInt8)} (h : RowS a B v ps) (hk : But G a b) (hB : G < B) : RowS b B v ps := by
  refine ⟨h.1, ?_⟩
  rcases h.2 with q | ⟨g, cap, cur, h1, h2, h3, h4⟩
  · exact .inl q
  · refine .inr ⟨g, cap, cur, h1, h2, ?_, h4⟩
    rw [hk.block g (lt_of_block h3) (by omega)]
    exact h3
theorem RowS.cell {B q cap : Nat} {a : World} {ps : List (List UInt8)} (h : RowS a B (.slice (some ⟨q, 0, none⟩) ps.length cap) ps) (k : Nat) (hk : k < ps.length) : a.cell? ⟨q, k, none⟩ = some (.string ⟨(ps[k]?.getD []).toArray⟩) := by
  have := World.ownsRow.cells h (g := q) rfl k (encStr (ps[k]?.getD [])) (by rw [List.getElem?_map, List.getElem?_eq_getElem hk]; rfl)
  rw [Addr.add_lit, Nat.zero_add] at this
  exact this
theorem Wr.but {w w' : World} {D G : Nat} {l : List UInt8} (h : Wr w D G l) (hb : But G w w') (hG : G < D) : Wr w' D G l := by
  obtain ⟨p, v, h1, h2, h3⟩ := h
  refine ⟨p, v, hb.blk h1 (by omega), h2, World.ownsRow.kept h3 (hb.to_grown rfl) ?_⟩
  rcases h3.2 with ⟨rfl, _⟩ | ⟨g, cap, cur, rfl, hg, _⟩
  · exact .inl rfl
  · right
    simp only [Value.ownBlock, ne_eq, Option.some.injEq]
    omega

def txtB (ps : List (List UInt8)) : List UInt8 := ps.flatMap (fun s => bys (ptxV ⟨s.toArray⟩))

theorem ptxV_le (s : ByteArray) : (bys (ptxV s)).length ≤ 1026 := by
  rw [bys_len]
  unfold ptxV
  by_cases h : ptxE s = 0
  · rw [if_pos h]
    unfold ptxE at h
    by_cases h1 : 1024 < s.size
    · rw [if_pos h1] at h; cases h
    · rw [ByteArray.size_append]
      show 2 + s.size ≤ 1026
      omega
  · rw [if_neg h]; exact Nat.zero_le _

theorem txtB_len : ∀ ps, (txtB ps).length ≤ 1026 * ps.length
  | [] => Nat.zero_le _
  | s :: r => by
    have h1 := txtB_len r
    have h2 := ptxV_le ⟨s.toArray⟩
    unfold txtB at *
    rw [List.flatMap_cons, List.length_append, List.length_cons]
    omega
theorem txtB_next (ps : List (List UInt8)) (k : Nat) (hk : k < ps.length) : txtB (ps.take (k + 1)) = txtB (ps.take k) ++ bys (ptxV ⟨(ps[k]?.getD []).toArray⟩) := by
  rw [List.take_add_one, List.getElem?_eq_getElem hk]
  unfold txtB
  rw [List.flatMap_append]
  simp

theorem PlAt.made (w : World) : PlAt (w.alloc (.map #[] 0)) w.heap.size 0 [] := World.ownsMap_made _ _ _ _

set_option maxRecDepth 100000 in
set_option maxHeartbeats 4000000 in
theorem wtexts_any {w0 w : World} {D G B q cap N : Nat} {ps : List (List UInt8)} (h : Wr w D G []) (hp : PlAt w G 0 []) (hN : N = ps.length) (hNb : N ≤ 10000) (hs : ∀ s ∈ ps, s.length ≤ 140737488355328) (hcap : N ≤ cap) (hR : RowS w B (.slice (some ⟨q, 0, none⟩) ps.length cap) ps) (hGD : G < D) (hDB : D < B) (hT : U8 w0) (hw0 : Below w0.heap.size w0 w) (hG0 : w0.heap.size ≤ G) :
    Calls Tryz.prog 26 #[.pointer (some ⟨D, 0, none⟩), .slice (some ⟨q, 0, none⟩) N cap] w fun x w' => x = .returned (.tuple #[]) ∧ Wr w' D G (p2 (N : Int) ++ txtB ps) ∧ PlAt w' G N ps ∧ Below G w w' := by
  have hGw := h.lt
  have C1 := hide (Put16_any (N : Int) w)
  have HW0 := hide hw0
  have HT := hide hT
  have HR := hide hR
  have HP := hide hp
  have HWR := hide h
  have HN := hide hN
  have HS := hide hs
  clear h hp hR hw0 hT hN hs
  go_enter Tryz.func26, Tryz.ntmps26
  go_wp2_with fail
  refine C1.out.mono ?_
  rintro x w1 ⟨rfl, hb1⟩
  have WR1 := hide (HWR.out.below hb1)
  have PA1 := hide (HP.out.below hb1)
  have K1 : Hid (Kw D w w1) := hide (.of_below hb1)
  have C2 := hide (put_any (put2 (N : Int)) WR1.out (by show 0 + 2 ≤ _; omega))
  clear hb1 C1 HP HWR
  go_wp2_with fail
  refine C2.out.mono ?_
  rintro x w2 ⟨rfl, hr2, hk2⟩
  have WR2 : Hid (Wr w2 D G (p2 (N : Int) ++ txtB (ps.take 0))) := hide (by rw [List.take_zero, show txtB [] = [] from rfl, List.append_nil]; exact hr2)
  have PA2 := hide (PA1.out.kw hk2 hGD)
  have K2 := hide (K1.out.trans hk2)
  have RW2 := hide (HR.out.kw K2.out hDB)
  have B2 := hide (K2.out.to_below (B := G) (by omega) (by omega))
  clear hr2 hk2 C2 WR1 PA1 K1 HR
  go_wp2
  go_loopw [15] (fun p wr => ∃ k : Nat, k ≤ N ∧ p = .int .i64 (k : Int) ∧ Hid (Wr wr D G (p2 (N : Int) ++ txtB (ps.take k))) ∧ Hid (PlAt wr G k (ps.take k)) ∧ Hid (RowS wr B (.slice (some ⟨q, 0, none⟩) ps.length cap) ps) ∧ Hid (Below G w wr)) (fun p _ => N - (intOf p).toNat)
  case atStart => exact ⟨0, Nat.zero_le _, rfl, WR2, hide (by simpa using PA2.out), RW2, B2⟩
  case round =>
    obtain ⟨k, hk, rfl, HWR, HPA, HRW, HB⟩ := hrel
    by_cases hlt : k < N
    · have hlt' : (k : Int) < (N : Int) := by omega
      have hkt : k < ps.length := by rw [← HN.out]; exact hlt
      have c0 := HRW.out.cell k hkt
      have NX := hide (txtB_next ps k hkt)
      have hsz : (ps[k]?.getD []).length ≤ 140737488355328 := HS.out _ (by rw [List.getElem?_eq_getElem hkt]; exact List.getElem_mem hkt)
      have TK : Hid (ps.take (k + 1) = ps.take k ++ [ps[k]?.getD []]) := hide (by rw [List.take_add_one, List.getElem?_eq_getElem hkt]; rfl)
      have LN : Hid ((p2 (N : Int) ++ txtB (ps.take k)).length ≤ 2 + 1026 * k) := hide (by
        rw [List.length_append]
        have := txtB_len (ps.take k)
        rw [List.length_take] at this
        have e : (p2 (N : Int)).length = 2 := rfl
        rw [e]
        have : min k ps.length ≤ k := Nat.min_le_left _ _
        omega)
      obtain ⟨sb, hsb⟩ : ∃ sb, sb = ps[k]?.getD [] := ⟨_, rfl⟩
      rw [← hsb] at c0 NX hsz TK
      obtain ⟨T, hTb⟩ : ∃ T : ByteArray, T = ⟨sb.toArray⟩ := ⟨_, rfl⟩
      rw [← hTb] at c0 NX
      have hTs : T.size = sb.length := by rw [hTb]; simp [ByteArray.size]
      have UW := hide (HT.out.below (HW0.out.trans (HB.out.mono (Nat.le_trans hG0 (Nat.le_refl _)))))
      have C3 := hide (PutText_any T wr UW.out)
      have hkey : Hid (keyOf Tryz.prog 9 (.string T) = some (.string sb)) := hide (by
        rw [hTb]; exact WideMaps.keyOf_string_mk Tryz.underlying9 (by unfold maxLen; simp [ByteArray.size]; omega))
      have hpl := ptxV_le T
      rw [bys_len] at hpl
      have FP : Hid ((plD (ps.take k)).put (.string sb) (.lit (.int .i64 (k : Int))) = plD (ps.take (k + 1))) := hide (by
        rw [TK.out]; unfold plD; rw [foldP_snoc, List.length_take, Nat.min_eq_left (by omega), Nat.zero_add]; rfl)
      generalize ptxV T = V at *
      generalize ptxE T = E at *
      clear hsb hTb hTs hsz TK UW hkt
      go_wp2_with fail
      refine C3.out.mono ?_
      rintro x w3 ⟨rfl, hb3⟩
      have WR3 := hide (HWR.out.below hb3)
      have PA3 := hide (HPA.out.below hb3)
      have K3 : Hid (Kw D wr w3) := hide (.of_below hb3)
      have C4 := hide (put_any V WR3.out (by have := LN.out; omega))
      clear hb3 C3 HWR HPA
      go_wp2_with fail
      refine C4.out.mono ?_
      rintro x w4 ⟨rfl, hr4, hk4⟩
      have WR4 : Hid (Wr w4 D G (p2 (N : Int) ++ txtB (ps.take (k + 1)))) := hide (by rw [NX.out, ← List.append_assoc]; exact hr4)
      have PA4 := hide (PA3.out.kw hk4 hGD)
      have K4 := hide (K3.out.trans hk4)
      have RW4 := hide (HRW.out.kw K4.out hDB)
      have B4 := hide (HB.out.trans (K4.out.to_below (B := G) (by omega) (Nat.le_trans (by omega) HB.out.size)))
      obtain ⟨p, v, hD4, _, _⟩ := WR4.out
      have d0 := hD4.cell 0
      have d2 : w4.cell? ⟨D, 2, none⟩ = some (.map (some G)) := hD4.cell 2
      clear hr4 hk4 C4 WR3 PA3 K3 K4 HRW hD4 NX LN c0
      have hown : w4.ownsMap (H := Unit) Tryz.prog 9 (plainElem Tryz.prog 3) G k (plD (ps.take k)) := PA4.out
      go_wp2_with (first | (at_mapUpdate; refine wpList_mapUpdate_own _ rfl _ _ _ 65 rfl 9 3 keyS Tryz.underlying65 _ G k _ rfl hown (by unfold maxLen; omega) _ _ _ rfl rfl hkey.out _ [] (plainElem_int Tryz.underlying3 (WalkArith.wf_i64 (by omega))) ?_; intro w5 hown5 hgrow5) | go_in)
      have PA5 : Hid (PlAt w5 G (k + 1) (ps.take (k + 1))) := hide (by unfold PlAt; rw [← FP.out]; exact hown5)
      have BT := But.of_grown hgrow5
      have WR5 := hide (WR4.out.but BT hGD)
      have RW5 := hide (RW4.out.but BT (by omega))
      have B5 := hide (B4.out.trans (BT.to_below (B := G) (Nat.le_trans (by omega) B4.out.size) (Nat.le_refl _)))
      exact ⟨⟨k + 1, by omega, by go_num, WR5, PA5, RW5, B5⟩, by simp [intOf]; omega⟩
    · obtain rfl : k = N := by omega
      have hlt' : ¬ (k : Int) < (k : Int) := by omega
      have e1 : ps.take k = ps := List.take_of_length_le (by rw [← HN.out]; exact Nat.le_refl _)
      rw [e1] at HWR HPA
      clear hlt e1
      go_wp2
      go_end0
      exact ⟨rfl, HWR.out, HPA.out, HB.out⟩

end Go.Proofs.YtihnakblcfealaaGreatDoor

namespace Go.Proofs.YtihnakblcfealaaGreatDoor
open Go.RowKit Go.Maps

theorem mem_insertD {H : Type} (x p : Lit × DataW H) : ∀ l : List (Lit × DataW H), p ∈ DataW.insert x l → p = x ∨ p ∈ l
  | [], h => by simp [DataW.insert] at h; exact .inl h
  | y :: r, h => by
    unfold DataW.insert at h
    split at h
    · rcases List.mem_cons.1 h with q | q
      · exact .inl q
      · exact .inr q
    · rcases List.mem_cons.1 h with q | q
      · exact .inr (by rw [q]; exact List.mem_cons_self ..)
      · rcases mem_insertD x p r q with q | q
        · exact .inl q
        · exact .inr (List.mem_cons_of_mem _ q)

def AllStr (D : DataW Unit) : Prop := ∃ es, D = .map es ∧ ∀ p ∈ es, ∃ x, p.1 = Lit.string x

theorem AllStr.put {D : DataW Unit} (h : AllStr D) (s : List UInt8) (d : DataW Unit) : AllStr (D.put (.string s) d) := by
  obtain ⟨es, rfl, h⟩ := h
  refine ⟨DataW.insert (.string s, d) (es.filter fun p => !p.1.sameKey (.string s)), rfl, fun p hp => ?_⟩
  rcases mem_insertD _ _ _ hp with q | q
  · exact ⟨s, by rw [q]⟩
  · exact h p (List.mem_filter.1 q).1

theorem allStr_fold : ∀ (l : List ByteArray) (D : DataW Unit), AllStr D → AllStr ((l.map litT).foldl (fun m x => m.put x (.agg [])) D)
  | [], _, h => h
  | s :: r, _, h => allStr_fold r _ (h.put s.data.toList _)

theorem allStr_set (l : List ByteArray) : AllStr (setOf (.agg []) (l.map litT)) := allStr_fold l _ ⟨[], rfl, fun p hp => by simp at hp⟩

theorem has_set (l : List ByteArray) (x : List UInt8) : has (setOf (H := Unit) (.agg []) (l.map litT)) (.string x) = true ↔ ∃ t ∈ l, bys t = x := by
  rw [has_setOf _ _ _ (keyLit l), List.any_eq_true]
  constructor
  · rintro ⟨y, hy, hs⟩
    obtain ⟨t, ht, rfl⟩ := List.mem_map.1 hy
    exact ⟨t, ht, by simpa [litT, Lit.sameKey, bys] using hs⟩
  · rintro ⟨t, ht, rfl⟩
    exact ⟨litT t, List.mem_map_of_mem ht, by simp [litT, Lit.sameKey, bys]⟩

theorem keys_facts (l : List ByteArray) : (strKeys (setOf (H := Unit) (.agg []) (l.map litT))).Nodup ∧ (∀ x, x ∈ strKeys (setOf (H := Unit) (.agg []) (l.map litT)) ↔ ∃ t ∈ l, bys t = x) ∧ (strKeys (setOf (H := Unit) (.agg []) (l.map litT))).length = poolS l := by
  obtain ⟨es, he, hk⟩ := allStr_set l
  obtain ⟨es', he', hp⟩ := tidy_setOf (H := Unit) (.agg []) (l.map litT) (keyLit l)
  have hh := has_set l
  have e2 : es' = es := by rw [he] at he'; injection he' with q; exact q.symm
  subst e2
  unfold poolS
  rw [he] at hh ⊢
  refine ⟨?_, fun x => ?_, by simp [strKeys, Maps.size]⟩
  · show (es'.map fun p => strOf p.1).Nodup
    refine List.pairwise_map.2 (hp.imp_of_mem fun {p q} hp' hq' hne e => hne ?_)
    obtain ⟨a, ha⟩ := hk p hp'
    obtain ⟨b, hb⟩ := hk q hq'
    rw [ha, hb] at e ⊢
    exact congrArg _ e
  · rw [← hh x, has_eq, List.any_eq_true]
    show x ∈ es'.map (fun p => strOf p.1) ↔ _
    rw [List.mem_map]
    constructor
    · rintro ⟨p, hp', rfl⟩
      obtain ⟨a, ha⟩ := hk p hp'
      exact ⟨p, hp', by rw [ha]; simp [Lit.sameKey, strOf]⟩
    · rintro ⟨p, hp', hs⟩
      obtain ⟨a, ha⟩ := hk p hp'
      rw [ha] at hs
      exact ⟨p, hp', by rw [ha]; simpa [Lit.sameKey, strOf] using hs⟩

theorem pool_mem (l : List ByteArray) (x : List UInt8) : x ∈ poolL l ↔ ∃ t ∈ l, bys t = x := by
  unfold poolL
  rw [(List.mergeSort_perm _ _).mem_iff]
  exact (keys_facts l).2.1 x
theorem pool_nodup (l : List ByteArray) : (poolL l).Nodup := (List.mergeSort_perm _ _).nodup_iff.2 (keys_facts l).1
theorem pool_len (l : List ByteArray) : (poolL l).length = poolS l := by
  unfold poolL
  rw [List.length_mergeSort]
  exact (keys_facts l).2.2
theorem pool_rise (l : List ByteArray) : (poolL l).Pairwise (· < ·) := by
  have h1 : (poolL l).Pairwise (fun a b => leB a b = true) := by
    unfold poolL
    refine List.pairwise_mergeSort (fun a b c h1 h2 => ?_) (fun a b => ?_) _
    · simp only [leB, decide_eq_true_eq] at *; exact List.le_trans h1 h2
    · simp only [leB, Bool.or_eq_true, decide_eq_true_eq]; exact List.le_total a b
  have h2 : (poolL l).Pairwise (· ≠ ·) := pool_nodup l
  refine (List.Pairwise.and h1 h2).imp fun {a b} h => ?_
  have h3 : a ≤ b := by simpa [leB] using h.1
  exact Decidable.byContradiction fun hn => h.2 (List.le_antisymm h3 (List.not_lt.1 hn))

end Go.Proofs.YtihnakblcfealaaGreatDoor

namespace Go.Proofs.YtihnakblcfealaaGreatDoor
open Go.RowKit

def Rise (ps : List (List UInt8)) : Prop := ps.Pairwise (· < ·)
def atP (ps : List (List UInt8)) (i : Nat) : List UInt8 := ps[i]?.getD []

theorem atP_get {ps : List (List UInt8)} {i : Nat} (h : i < ps.length) : ps[i]? = some (atP ps i) := by unfold atP; rw [List.getElem?_eq_getElem h]; rfl

theorem rise_lt {ps : List (List UInt8)} (h : Rise ps) {i j : Nat} (hij : i < j) (hj : j < ps.length) : atP ps i < atP ps j := by
  have := List.pairwise_iff_getElem.1 h i j (by omega) hj hij
  unfold atP
  rw [List.getElem?_eq_getElem hj, List.getElem?_eq_getElem (show i < ps.length by omega)]
  exact this

def PosL (ps : List (List UInt8)) (s : List UInt8) (p : Nat) : Prop := p ≤ ps.length ∧ (∀ i, i < p → atP ps i < s) ∧ ∀ i, p ≤ i → i < ps.length → ¬ atP ps i < s
def isAt (ps : List (List UInt8)) (s : List UInt8) (p : Nat) : Bool := decide (p < ps.length) && decide (atP ps p = s)

theorem PosL.mem {ps : List (List UInt8)} {s : List UInt8} {p : Nat} (hr : Rise ps) (h : PosL ps s p) : isAt ps s p = true ↔ s ∈ ps := by
  obtain ⟨h1, h2, h3⟩ := h
  unfold isAt
  rw [Bool.and_eq_true, decide_eq_true_iff, decide_eq_true_iff]
  constructor
  · rintro ⟨q1, q2⟩
    rw [← q2]
    exact List.mem_of_getElem? (atP_get q1)
  · intro hm
    obtain ⟨i, hi, rfl⟩ := List.getElem_of_mem hm
    have e : atP ps i = ps[i] := by unfold atP; rw [List.getElem?_eq_getElem hi]; rfl
    have hip : ¬ i < p := fun q => by
      have := h2 i q
      rw [e] at this
      exact List.lt_irrefl _ this
    by_cases hpi : p = i
    · subst hpi
      exact ⟨hi, e⟩
    · exfalso
      have h4 := rise_lt hr (i := p) (j := i) (by omega) hi
      rw [e] at h4
      exact h3 p (Nat.le_refl _) (by omega) h4

def insP (ps : List (List UInt8)) (s : List UInt8) (p : Nat) : List (List UInt8) := ps.take p ++ s :: ps.drop p

theorem insP_mem {ps : List (List UInt8)} {s : List UInt8} {p : Nat} (x : List UInt8) : x ∈ insP ps s p ↔ x ∈ ps ∨ x = s := by
  unfold insP
  have e : x ∈ ps ↔ x ∈ ps.take p ∨ x ∈ ps.drop p := by rw [← List.mem_append, List.take_append_drop]
  rw [e, List.mem_append, List.mem_cons]
  constructor
  · rintro (q | q | q)
    · exact .inl (.inl q)
    · exact .inr q
    · exact .inl (.inr q)
  · rintro ((q | q) | q)
    · exact .inl q
    · exact .inr (.inr q)
    · exact .inr (.inl q)

theorem insP_len {ps : List (List UInt8)} {s : List UInt8} {p : Nat} (h : p ≤ ps.length) : (insP ps s p).length = ps.length + 1 := by
  unfold insP
  rw [List.length_append, List.length_cons, List.length_take, List.length_drop]
  omega

theorem insP_rise {ps : List (List UInt8)} {s : List UInt8} {p : Nat} (hr : Rise ps) (h : PosL ps s p) (hn : isAt ps s p = false) : Rise (insP ps s p) := by
  have hm := PosL.mem hr h
  obtain ⟨h1, h2, h3⟩ := h
  have hns : s ∉ ps := fun q => by rw [hm.2 q] at hn; cases hn
  unfold insP Rise
  have ht : ∀ x ∈ ps.take p, x < s := by
    intro x hx
    obtain ⟨i, hi, rfl⟩ := List.getElem_of_mem hx
    rw [List.length_take] at hi
    have := h2 i (by omega)
    rw [List.getElem_take]
    unfold atP at this
    rw [List.getElem?_eq_getElem (show i < ps.length by omega)] at this
    exact this
  have hd : ∀ x ∈ ps.drop p, s < x := by
    intro x hx
    have hxm : x ∈ ps := List.mem_of_mem_drop hx
    obtain ⟨i, hi, rfl⟩ := List.getElem_of_mem hx
    rw [List.length_drop] at hi
    have := h3 (p + i) (by omega) (by omega)
    rw [List.getElem_drop] at hxm ⊢
    unfold atP at this
    rw [List.getElem?_eq_getElem (show p + i < ps.length by omega)] at this
    have hle : s ≤ ps[p + i] := List.not_lt.1 this
    rcases Decidable.em (s < ps[p + i]) with q | q
    · exact q
    · exact absurd (by rw [List.le_antisymm hle (List.not_lt.1 q)]; exact hxm) hns
  have hr' : (ps.take p ++ ps.drop p).Pairwise (· < ·) := by rw [List.take_append_drop]; exact hr
  rw [List.pairwise_append] at hr' ⊢
  refine ⟨hr'.1, List.pairwise_cons.2 ⟨hd, hr'.2.1⟩, fun x hx y hy => ?_⟩
  rcases List.mem_cons.1 hy with q | q
  · subst q; exact ht x hx
  · exact hr'.2.2 x hx y q

theorem rise_eq : ∀ {a b : List (List UInt8)}, Rise a → Rise b → (∀ x, x ∈ a ↔ x ∈ b) → a = b
  | [], [], _, _, _ => rfl
  | [], y :: b, _, _, h => by have := (h y).2 (List.mem_cons_self ..); cases this
  | x :: a, [], _, _, h => by have := (h x).1 (List.mem_cons_self ..); cases this
  | x :: a, y :: b, ha, hb, h => by
    obtain ⟨ha1, ha2⟩ := List.pairwise_cons.1 ha
    obtain ⟨hb1, hb2⟩ := List.pairwise_cons.1 hb
    have hxy : x = y := by
      rcases List.mem_cons.1 ((h x).1 (List.mem_cons_self ..)) with q | q
      · exact q
      · rcases List.mem_cons.1 ((h y).2 (List.mem_cons_self ..)) with r | r
        · exact r.symm
        · exact absurd (List.lt_trans (hb1 x q) (ha1 y r)) (List.lt_irrefl _)
    subst hxy
    congr 1
    refine rise_eq ha2 hb2 (fun z => ⟨fun hz => ?_, fun hz => ?_⟩)
    · rcases List.mem_cons.1 ((h z).1 (List.mem_cons_of_mem _ hz)) with q | q
      · subst q; exact absurd (ha1 z hz) (List.lt_irrefl _)
      · exact q
    · rcases List.mem_cons.1 ((h z).2 (List.mem_cons_of_mem _ hz)) with q | q
      · subst q; exact absurd (hb1 z hz) (List.lt_irrefl _)
      · exact q

end Go.Proofs.YtihnakblcfealaaGreatDoor

namespace Go.Proofs.YtihnakblcfealaaGreatDoor
open Go.RowKit

theorem eqA (l : List UInt8) (s : ByteArray) : ((⟨l.toArray⟩ : ByteArray).toList == s.toList) = decide (l = bys s) := by
  rw [eqT]
  by_cases h : l = bys s
  · rw [decide_eq_true h]
    refine decide_eq_true ?_
    rw [h]
    rfl
  · rw [decide_eq_false h]
    exact decide_eq_false (fun e => h (by rw [← e]; rfl))

def TxS (w : World) (v : Value) (ps : List (List UInt8)) : Prop := ∃ ao cap, v = .slice ao ps.length cap ∧ ps.length ≤ cap ∧ ∀ i, i < ps.length → ∃ g o, ao = some ⟨g, o, none⟩ ∧ g < w.heap.size ∧ ∀ j, j < ps.length → w.cell? ⟨g, o + j, none⟩ = some (.string ⟨(atP ps j).toArray⟩)

theorem TxS.of_row {w : World} {B : Nat} {v : Value} {ps : List (List UInt8)} (h : RowS w B v ps) : TxS w v ps := by
  rcases h.2 with ⟨rfl, h0⟩ | ⟨g, cap, cur, rfl, hg, hh, hn, _⟩
  · obtain rfl := List.length_eq_zero_iff.1 h0
    exact ⟨none, 0, rfl, Nat.le_refl _, fun i hi => by simp at hi⟩
  · exact ⟨some ⟨g, 0, none⟩, cap, rfl, hn, fun i _ => ⟨g, 0, rfl, lt_of_block hh, fun j hj => by rw [Nat.zero_add]; exact RowS.cell h j hj⟩⟩

set_option maxRecDepth 100000 in
set_option maxHeartbeats 4000000 in
theorem place_any {w : World} {v : Value} {ps : List (List UInt8)} (s : ByteArray) (h : TxS w v ps) (hr : Rise ps) (hn : ps.length ≤ 4398046511104) :
    Calls Tryz.prog 66 #[v, .string s] w fun e w' => (∃ p, PosL ps (bys s) p ∧ e = .returned (.tuple #[.int .i64 (p : Int), .bool (isAt ps (bys s) p)])) ∧ Below w.heap.size w w' := by
  obtain ⟨ao, cap, rfl, hcap, hc⟩ := h
  have HC := hide hc
  have HR := hide hr
  obtain ⟨L, hL⟩ : ∃ L, L = ps.length := ⟨_, rfl⟩
  have HL := hide hL
  rw [← hL] at hcap hn ⊢
  clear hc hr hL
  go_enter Tryz.func66, Tryz.ntmps66
  go_wp2
  go_loopw [6, 7] (fun x y wr => ∃ lo hi : Nat, x = .int .i64 (lo : Int) ∧ y = .int .i64 (hi : Int) ∧ lo ≤ hi ∧ hi ≤ L ∧ Hid (∀ i, i < lo → atP ps i < bys s) ∧ Hid (∀ i, hi ≤ i → i < ps.length → ¬ atP ps i < bys s) ∧ w = wr) (fun x y _ => (intOf y - intOf x).toNat)
  case atStart => exact ⟨0, L, rfl, rfl, Nat.zero_le _, Nat.le_refl _, hide (fun i hi => by omega), hide (fun i h1 h2 => by have := HL.out; omega), rfl⟩
  case round =>
    obtain ⟨lo, hi, rfl, rfl, hlh, hhL, H1, H2, rfl⟩ := hrel
    by_cases hlt : lo < hi
    · have hlt' : (lo : Int) < (hi : Int) := by omega
      obtain ⟨m, hm⟩ : ∃ m, m = (lo + hi) / 2 := ⟨_, rfl⟩
      have hm1 : lo ≤ m := by omega
      have hm2 : m < hi := by omega
      have hmL : m < L := by omega
      have hmL' : (m : Int) < (L : Int) := by omega
      have hq : ((lo : Int) + (hi : Int)).tdiv 2 = (m : Int) := by rw [Int.tdiv_eq_ediv_of_nonneg (by omega)]; omega
      obtain ⟨g, o, rfl, hg, hcl⟩ := HC.out m (by rw [← HL.out]; exact hmL)
      have c0 := hcl m (by rw [← HL.out]; exact hmL)
      have HRM := hide (fun i (q : i < m) => rise_lt HR.out q (by rw [← HL.out]; exact hmL))
      have HRG := hide (fun j (q : m < j) (q2 : j < ps.length) => rise_lt HR.out q q2)
      obtain ⟨t, ht⟩ : ∃ t : ByteArray, t = ⟨(atP ps m).toArray⟩ := ⟨_, rfl⟩
      rw [← ht] at c0
      have hbt : bys t = atP ps m := by rw [ht]; rfl
      by_cases hl : atP ps m < bys s
      · have hl' : Op.bytesLess t.toList s.toList = true := by
          have := ltT_iff t s
          rw [hbt, decide_eq_true hl] at this
          exact this
        have HN : Hid (∀ i, i < m + 1 → atP ps i < bys s) := hide (fun i hi => by
          rcases Nat.lt_or_ge i m with q | q
          · exact List.lt_trans (HRM.out i q) hl
          · obtain rfl : i = m := by omega
            exact hl)
        clear hm hbt ht hl hcl HRM HRG
        go_wp2
        exact ⟨⟨m + 1, hi, by go_num, rfl, by omega, hhL, HN, H2, trivial⟩, by simp [intOf]; omega⟩
      · have hl' : Op.bytesLess t.toList s.toList = false := by
          have := ltT_iff t s
          rw [hbt, decide_eq_false hl] at this
          exact this
        have HN : Hid (∀ i, m ≤ i → i < ps.length → ¬ atP ps i < bys s) := hide (fun i h1 h2 => by
          rcases Nat.lt_or_ge m i with q | q
          · exact fun e => hl (List.lt_trans (HRG.out i q h2) e)
          · obtain rfl : i = m := by omega
            exact hl)
        clear hm hbt ht hl hcl HRM HRG
        go_wp2
        exact ⟨⟨lo, m, rfl, rfl, hm1, by omega, H1, HN, trivial⟩, by simp [intOf]; omega⟩
    · obtain rfl : lo = hi := by omega
      have hlt' : ¬ (lo : Int) < (lo : Int) := by omega
      have HP : Hid (PosL ps (bys s) lo) := hide ⟨by rw [← HL.out]; exact hhL, H1.out, H2.out⟩
      clear hlt hlh H1 H2
      by_cases hlL : lo < L
      · have hlL' : (lo : Int) < (L : Int) := by omega
        obtain ⟨g, o, rfl, hg, hcl⟩ := HC.out lo (by rw [← HL.out]; exact hlL)
        have c0 := hcl lo (by rw [← HL.out]; exact hlL)
        have EA : Hid (isAt ps (bys s) lo = decide (atP ps lo = bys s)) := hide (by unfold isAt; rw [decide_eq_true (by rw [← HL.out]; exact hlL), Bool.true_and])
        have EQ := eqA (atP ps lo) s
        obtain ⟨t, ht⟩ : ∃ t : ByteArray, t = ⟨(atP ps lo).toArray⟩ := ⟨_, rfl⟩
        rw [← ht] at c0 EQ
        rw [← EA.out] at EQ
        obtain ⟨V, hV⟩ : ∃ V, V = isAt ps (bys s) lo := ⟨_, rfl⟩
        rw [← hV] at EQ
        have HV := hide hV
        clear ht hcl hV EA hlL
        cases V with
        | true =>
          go_wp2_with fail
          go_region
          go_wp2
          refine bodyPost_ret (results_tmp2 rfl _ _ _) rfl ?_
          exact ⟨⟨lo, HP.out, by rw [← HV.out]; rfl⟩, (Below.refl _ _).drew⟩
        | false =>
          go_wp2_with fail
          go_region
          go_wp2
          refine bodyPost_ret (results_tmp2 rfl _ _ _) rfl ?_
          exact ⟨⟨lo, HP.out, by rw [← HV.out]; rfl⟩, (Below.refl _ _).drew⟩
      · have hlL' : ¬ (lo : Int) < (L : Int) := by omega
        have HV : Hid (isAt ps (bys s) lo = false) := hide (by unfold isAt; rw [decide_eq_false (by rw [← HL.out]; exact hlL), Bool.false_and])
        have hlB : decide (lo < L) = false := decide_eq_false hlL
        clear hlL
        go_wp2_with fail
        go_region
        go_wp2
        refine bodyPost_ret (results_tmp2 rfl _ _ _) rfl ?_
        exact ⟨⟨lo, HP.out, by rw [HV.out]; rfl⟩, (Below.refl _ _).drew⟩

end Go.Proofs.YtihnakblcfealaaGreatDoor

namespace Go.Proofs.YtihnakblcfealaaGreatDoor
open Go.RowKit

set_option maxRecDepth 100000 in
set_option maxHeartbeats 4000000 in
theorem rAt_any {w : World} {v : Value} {ps : List (List UInt8)} (i : Nat) (h : TxS w v ps) :
    Calls Tryz.prog 34 #[v, .int .i64 (i : Int)] w fun e w' => e = .returned (.tuple #[.string ⟨(atP ps i).toArray⟩, .bool (decide (i < ps.length))]) ∧ Below w.heap.size w w' := by
  obtain ⟨ao, cap, rfl, hcap, hc⟩ := h
  have hi0 : ¬ (i : Int) < 0 := by omega
  by_cases hi : i < ps.length
  · obtain ⟨g, o, rfl, hg, hcl⟩ := hc i hi
    have c0 := hcl i hi
    rw [decide_eq_true hi]
    obtain ⟨L, hL⟩ : ∃ L, L = ps.length := ⟨_, rfl⟩
    obtain ⟨t, ht⟩ : ∃ t : ByteArray, t = ⟨(atP ps i).toArray⟩ := ⟨_, rfl⟩
    rw [← ht] at c0 ⊢
    rw [← hL] at hi hcap ⊢
    have hi' : (i : Int) < (L : Int) := by omega
    have hi2 : ¬ (L : Int) ≤ (i : Int) := by omega
    clear hc hcl ht hL hi
    go_enter Tryz.func34, Tryz.ntmps34
    go_wp2
    refine bodyPost_ret (results_tmp2 rfl _ _ _) rfl ?_
    exact ⟨rfl, Below.refl _ _⟩
  · have e0 : atP ps i = [] := by unfold atP; rw [List.getElem?_eq_none (by omega)]; rfl
    rw [decide_eq_false hi, e0]
    obtain ⟨L, hL⟩ : ∃ L, L = ps.length := ⟨_, rfl⟩
    rw [← hL] at hi hcap ⊢
    have hi2 : (L : Int) ≤ (i : Int) := by omega
    clear hc hL hi e0
    go_enter Tryz.func34, Tryz.ntmps34
    go_wp2
    refine bodyPost_ret (results_tmp2 rfl _ _ _) rfl ?_
    exact ⟨rfl, Below.refl _ _⟩

end Go.Proofs.YtihnakblcfealaaGreatDoor

namespace Go.Proofs.YtihnakblcfealaaGreatDoor
open Go.RowKit

def Cur (w : World) (D : Nat) (s : ByteArray) (at_ e : Nat) : Prop := Blk w D #[.string s, .int .i64 (at_ : Int), .int .i64 (e : Int)] 57

theorem Cur.below {w w' : World} {D : Nat} {s : ByteArray} {at_ e : Nat} (h : Cur w D s at_ e) (hb : Below w.heap.size w w') : Cur w' D s at_ e := Blk.below h hb (Blk.lt h)
theorem Cur.lt {w : World} {D : Nat} {s : ByteArray} {at_ e : Nat} (h : Cur w D s at_ e) : D < w.heap.size := Blk.lt h
set_option maxHeartbeats 1000000 in
theorem New_any (s : ByteArray) (w : World) : Calls Tryz.prog 8 #[.string s] w fun e w' => e = .returned (.pointer (some ⟨w.heap.size, 0, none⟩)) ∧ Cur w' w.heap.size s 0 0 ∧ Below w.heap.size w w' := by
  go_enter Tryz.func8, Tryz.ntmps8
  go_wp2
  go_ret
  exact ⟨rfl, Blk.new _ _ _, (Below.refl _ _).alloc (Nat.le_refl _) _⟩

section
variable {w : World} {D : Nat} {s : ByteArray} {at_ e : Nat}

set_option maxHeartbeats 1000000 in
theorem left_any (hs : s.size ≤ 4611686018427387904) (ha : at_ ≤ s.size) (h : Cur w D s at_ e) : Calls Tryz.prog 90 #[.pointer (some ⟨D, 0, none⟩)] w fun x w' => x = .returned (.int .i64 ((s.size : Int) - (at_ : Int))) ∧ w' = w.drew := by
  have c0 := Blk.cell h 0
  have c1 := Blk.cell h 1
  clear h
  go_enter Tryz.func90, Tryz.ntmps90
  go_wp2_with fail
  go_region
  go_wp2
  go_ret
  exact ⟨rfl, rfl⟩

def Pan (e : Nat) (x : Ending) : Prop := x = .panicked [{ v := .iface 25 (.int .i64 (e : Int)), recovered := false }]

set_option maxHeartbeats 1000000 in
theorem take_no (n : Nat) (hs : s.size ≤ 4611686018427387904) (ha : at_ ≤ s.size) (h : Cur w D s at_ e) (hn : s.size < at_ + n) : Calls Tryz.prog 73 #[.pointer (some ⟨D, 0, none⟩), .int .i64 (n : Int)] w fun x w' => Pan 110 x ∧ Below w.heap.size w w' := by
  have HL := hide (left_any hs ha h)
  have hn' : (s.size : Int) - (at_ : Int) < (n : Int) := by omega
  clear h
  go_enter Tryz.func73, Tryz.ntmps73
  go_wp2_with fail
  refine HL.out.mono ?_
  rintro x w1 ⟨rfl, rfl⟩
  go_wp2
  exact ⟨rfl, rfl, (Below.refl _ _).drew⟩

set_option maxHeartbeats 1000000 in
theorem take_ok (n : Nat) (hs : s.size ≤ 4611686018427387904) (h : Cur w D s at_ e) (hn : at_ + n ≤ s.size) : Calls Tryz.prog 73 #[.pointer (some ⟨D, 0, none⟩), .int .i64 (n : Int)] w fun x w' => x = .returned (.string (s.extract at_ (at_ + n))) ∧ Cur w' D s (at_ + n) e ∧ But D w w' := by
  have HL := hide (left_any hs (by omega) h)
  have hn' : ¬ (s.size : Int) - (at_ : Int) < (n : Int) := by omega
  have HC := hide h
  have c0 := Blk.cell HC.out 0
  have c1 := Blk.cell HC.out 1
  have f1 := Blk.free HC.out 1
  have HC2 := hide (Blk.set1of3 HC.out (.int .i64 ((at_ : Int) + (n : Int))))
  have d0 := Blk.cell HC2.out 0
  have d1 := Blk.cell HC2.out 1
  have hle : (at_ : Int) ≤ (at_ : Int) + (n : Int) := by omega
  have hle2 : (at_ : Int) + (n : Int) ≤ (s.size : Int) := by omega
  clear h
  go_enter Tryz.func73, Tryz.ntmps73
  go_wp2_with fail
  refine HL.out.mono ?_
  rintro x w1 ⟨rfl, rfl⟩
  go_wp2_with fail
  go_region
  go_wp2
  go_ret
  have h9 : Cur (w.setCell ⟨D, 1, none⟩ (.int .i64 ((at_ : Int) + (n : Int)))) D s (at_ + n) e := HC2.out
  exact ⟨rfl, h9.below ((Below.refl _ _).drew.drew), ((But.refl D w).set 1 _).trans (But.of_below (Below.refl _ _).drew.drew)⟩

end

end Go.Proofs.YtihnakblcfealaaGreatDoor

namespace Go.Proofs.YtihnakblcfealaaGreatDoor
open Go.RowKit

def beA (l : List UInt8) (at_ : Nat) : Nat → Nat
  | 0 => 0
  | k + 1 => beA l at_ k * 256 + byt l (at_ + k)

theorem beA_lt (l : List UInt8) (at_ : Nat) : ∀ k, beA l at_ k < 256 ^ k
  | 0 => by simp [beA]
  | k + 1 => by
    have h1 := beA_lt l at_ k
    have h2 := byt_lt l (at_ + k)
    rw [beA, Nat.pow_succ]
    omega

theorem or_byte {n b : Nat} (hb : b < 256) (hn : n < 16777216) : bits .or .i64 ((n : Int) * 256) (b : Int) = ((n * 256 + b : Nat) : Int) := by
  have h : bits .or .i64 ((n * 256 : Nat) : Int) (b : Int) = ((n * 256 ||| b : Nat) : Int) := by
    have hx : n * 256 ||| b < 2 ^ 62 := Nat.or_lt_two_pow (by omega) (by omega)
    show IntKind.i64.wrap ((BitVec.ofInt 64 ((n * 256 : Nat) : Int) ||| BitVec.ofInt 64 (b : Int)).toNat : Int) = _
    rw [BitVec.toNat_or, ofInt_u64 (n * 256) (by omega), ofInt_u64 b (by omega)]
    exact wrap_small _ (by omega) (by omega)
  have e : (n * 256) ||| b = n * 256 + b := by
    have := Nat.shiftLeft_add_eq_or_of_lt (i := 8) (show b < 2 ^ 8 by simpa using hb) n
    rw [Nat.shiftLeft_eq] at this
    exact this.symm
  rw [e] at h
  rw [show ((n : Int) * 256) = ((n * 256 : Nat) : Int) by omega]
  exact h

section
variable {w : World} {D : Nat} {s : ByteArray} {at_ e : Nat}

theorem blen1 : ((Lib.bitLen (255 : Int).toNat : Nat) : Int) = 8 := by decide

set_option maxHeartbeats 1000000 in
theorem number1_no (hs : s.size ≤ 4611686018427387904) (ha : at_ ≤ s.size) (h : Cur w D s at_ e) (hn : s.size < at_ + 1) : Calls Tryz.prog 49 #[.pointer (some ⟨D, 0, none⟩)] w fun x w' => Pan 110 x ∧ Below w.heap.size w w' := by
  have HL := hide (Tryz.bits_Len64 255 w (by decide) (by decide))
  rw [blen1] at HL
  have HT : Hid (Calls Tryz.prog 73 #[.pointer (some ⟨D, 0, none⟩), .int .i64 1] w fun x w' => Pan 110 x ∧ Below w.heap.size w w') := take_no 1 hs ha h hn
  clear h hn ha
  go_enter Tryz.func49, Tryz.ntmps49
  go_wp2_with fail
  refine HL.out.mono ?_
  rintro x w1 ⟨rfl, rfl⟩
  go_wp2_with fail
  refine HT.out.mono ?_
  rintro x w1 ⟨rfl, hb⟩
  go_wp2
  exact ⟨rfl, rfl, hb⟩

set_option maxHeartbeats 1000000 in
theorem number1_ok (hs : s.size ≤ 4611686018427387904) (h : Cur w D s at_ e) (hn : at_ + 1 ≤ s.size) : Calls Tryz.prog 49 #[.pointer (some ⟨D, 0, none⟩)] w fun x w' => x = .returned (.int .i64 (beA (bys s) at_ 1 : Int)) ∧ Cur w' D s (at_ + 1) e ∧ But D w w' := by
  have HL := hide (Tryz.bits_Len64 255 w (by decide) (by decide))
  rw [blen1] at HL
  have HT : Hid (Calls Tryz.prog 73 #[.pointer (some ⟨D, 0, none⟩), .int .i64 1] w fun x w' => x = .returned (.string (s.extract at_ (at_ + 1))) ∧ Cur w' D s (at_ + 1) e ∧ But D w w') := take_ok 1 hs h hn
  obtain ⟨t, ht⟩ : ∃ t, t = s.extract at_ (at_ + 1) := ⟨_, rfl⟩
  rw [← ht] at HT
  have hts : t.size = 1 := by rw [ht, ByteArray.size_extract]; omega
  have HG : Hid (∀ i (h : i < t.size), t[i].toNat = byt (bys s) (at_ + i)) := by
    intro i hi
    subst ht
    rw [← byt_get s (at_ + i) (by omega)]
    simp [ByteArray.getElem_extract]
  have HLT : Hid (∀ i, i < 1 → beA (bys s) at_ i < 16777216) := fun i hi => Nat.lt_of_lt_of_le (beA_lt _ _ i) (by have : i = 0 ∨ i = 1 ∨ i = 2 ∨ i = 3 := (by omega); rcases this with rfl | rfl | rfl | rfl <;> decide)
  clear h hn ht
  go_enter Tryz.func49, Tryz.ntmps49
  go_wp2_with fail
  refine HL.out.mono ?_
  rintro x w1 ⟨rfl, rfl⟩
  go_wp2_with fail
  refine HT.out.mono ?_
  rintro x w2 ⟨rfl, hc, hb⟩
  have HC := hide hc
  have HB := hide hb
  clear hc hb HL HT
  go_wp2
  go_loopw [5, 16] (fun p q wr => ∃ i : Nat, i ≤ 1 ∧ p = .int .i64 (beA (bys s) at_ i : Int) ∧ q = .int .i64 (i : Int) ∧ wr = w2) (fun _ q _ => 1 - (intOf q).toNat)
  case atStart => exact ⟨0, Nat.zero_le _, rfl, rfl, rfl⟩
  case round =>
    obtain ⟨i, hi, rfl, rfl, hw⟩ := hrel
    subst hw
    by_cases hlt : i < 1
    · have hlt' : (i : Int) < 1 := by omega
      have hlt2 : i < t.size := by omega
      have hlt3 : (i : Int) < (t.size : Int) := by omega
      have hg : ∀ h : i < t.size, t[i].toNat = byt (bys s) (at_ + i) := fun h => HG.out i h
      have hb2 := byt_lt (bys s) (at_ + i)
      have hn2 := HLT.out i hlt
      obtain ⟨N, hN⟩ : ∃ N, N = beA (bys s) at_ i := ⟨_, rfl⟩
      obtain ⟨b, hbb⟩ : ∃ b, b = byt (bys s) (at_ + i) := ⟨_, rfl⟩
      have HE : Hid (((N * 256 + b : Nat) : Int) = (beA (bys s) at_ (i + 1) : Int)) := hide (by rw [hN, hbb, beA])
      rw [← hN] at hn2 ⊢
      rw [← hbb] at hg hb2
      have e2 := or_byte hb2 hn2
      clear hN hbb
      go_wp2
      exact ⟨⟨i + 1, by omega, by rw [← HE.out]; rfl, by go_num, trivial⟩, by simp [intOf]; omega⟩
    · have hlt' : ¬ (i : Int) < 1 := by omega
      obtain rfl : i = 1 := by omega
      go_wp2
      go_ret
      exact ⟨rfl, HC.out, HB.out⟩

theorem blen2 : ((Lib.bitLen (65535 : Int).toNat : Nat) : Int) = 16 := by decide

set_option maxHeartbeats 1000000 in
theorem number2_no (hs : s.size ≤ 4611686018427387904) (ha : at_ ≤ s.size) (h : Cur w D s at_ e) (hn : s.size < at_ + 2) : Calls Tryz.prog 46 #[.pointer (some ⟨D, 0, none⟩)] w fun x w' => Pan 110 x ∧ Below w.heap.size w w' := by
  have HL := hide (Tryz.bits_Len64 65535 w (by decide) (by decide))
  rw [blen2] at HL
  have HT : Hid (Calls Tryz.prog 73 #[.pointer (some ⟨D, 0, none⟩), .int .i64 2] w fun x w' => Pan 110 x ∧ Below w.heap.size w w') := take_no 2 hs ha h hn
  clear h hn ha
  go_enter Tryz.func46, Tryz.ntmps46
  go_wp2_with fail
  refine HL.out.mono ?_
  rintro x w1 ⟨rfl, rfl⟩
  go_wp2_with fail
  refine HT.out.mono ?_
  rintro x w1 ⟨rfl, hb⟩
  go_wp2
  exact ⟨rfl, rfl, hb⟩

set_option maxHeartbeats 1000000 in
theorem number2_ok (hs : s.size ≤ 4611686018427387904) (h : Cur w D s at_ e) (hn : at_ + 2 ≤ s.size) : Calls Tryz.prog 46 #[.pointer (some ⟨D, 0, none⟩)] w fun x w' => x = .returned (.int .i64 (beA (bys s) at_ 2 : Int)) ∧ Cur w' D s (at_ + 2) e ∧ But D w w' := by
  have HL := hide (Tryz.bits_Len64 65535 w (by decide) (by decide))
  rw [blen2] at HL
  have HT : Hid (Calls Tryz.prog 73 #[.pointer (some ⟨D, 0, none⟩), .int .i64 2] w fun x w' => x = .returned (.string (s.extract at_ (at_ + 2))) ∧ Cur w' D s (at_ + 2) e ∧ But D w w') := take_ok 2 hs h hn
  obtain ⟨t, ht⟩ : ∃ t, t = s.extract at_ (at_ + 2) := ⟨_, rfl⟩
  rw [← ht] at HT
  have hts : t.size = 2 := by rw [ht, ByteArray.size_extract]; omega
  have HG : Hid (∀ i (h : i < t.size), t[i].toNat = byt (bys s) (at_ + i)) := by
    intro i hi
    subst ht
    rw [← byt_get s (at_ + i) (by omega)]
    simp [ByteArray.getElem_extract]
  have HLT : Hid (∀ i, i < 2 → beA (bys s) at_ i < 16777216) := fun i hi => Nat.lt_of_lt_of_le (beA_lt _ _ i) (by have : i = 0 ∨ i = 1 ∨ i = 2 ∨ i = 3 := (by omega); rcases this with rfl | rfl | rfl | rfl <;> decide)
  clear h hn ht
  go_enter Tryz.func46, Tryz.ntmps46
  go_wp2_with fail
  refine HL.out.mono ?_
  rintro x w1 ⟨rfl, rfl⟩
  go_wp2_with fail
  refine HT.out.mono ?_
  rintro x w2 ⟨rfl, hc, hb⟩
  have HC := hide hc
  have HB := hide hb
  clear hc hb HL HT
  go_wp2
  go_loopw [5, 16] (fun p q wr => ∃ i : Nat, i ≤ 2 ∧ p = .int .i64 (beA (bys s) at_ i : Int) ∧ q = .int .i64 (i : Int) ∧ wr = w2) (fun _ q _ => 2 - (intOf q).toNat)
  case atStart => exact ⟨0, Nat.zero_le _, rfl, rfl, rfl⟩
  case round =>
    obtain ⟨i, hi, rfl, rfl, hw⟩ := hrel
    subst hw
    by_cases hlt : i < 2
    · have hlt' : (i : Int) < 2 := by omega
      have hlt2 : i < t.size := by omega
      have hlt3 : (i : Int) < (t.size : Int) := by omega
      have hg : ∀ h : i < t.size, t[i].toNat = byt (bys s) (at_ + i) := fun h => HG.out i h
      have hb2 := byt_lt (bys s) (at_ + i)
      have hn2 := HLT.out i hlt
      obtain ⟨N, hN⟩ : ∃ N, N = beA (bys s) at_ i := ⟨_, rfl⟩
      obtain ⟨b, hbb⟩ : ∃ b, b = byt (bys s) (at_ + i) := ⟨_, rfl⟩
      have HE : Hid (((N * 256 + b : Nat) : Int) = (beA (bys s) at_ (i + 1) : Int)) := hide (by rw [hN, hbb, beA])
      rw [← hN] at hn2 ⊢
      rw [← hbb] at hg hb2
      have e2 := or_byte hb2 hn2
      clear hN hbb
      go_wp2
      exact ⟨⟨i + 1, by omega, by rw [← HE.out]; rfl, by go_num, trivial⟩, by simp [intOf]; omega⟩
    · have hlt' : ¬ (i : Int) < 2 := by omega
      obtain rfl : i = 2 := by omega
      go_wp2
      go_ret
      exact ⟨rfl, HC.out, HB.out⟩

theorem blen4 : ((Lib.bitLen (4294967295 : Int).toNat : Nat) : Int) = 32 := by decide

set_option maxHeartbeats 1000000 in
theorem number4_no (hs : s.size ≤ 4611686018427387904) (ha : at_ ≤ s.size) (h : Cur w D s at_ e) (hn : s.size < at_ + 4) : Calls Tryz.prog 92 #[.pointer (some ⟨D, 0, none⟩)] w fun x w' => Pan 110 x ∧ Below w.heap.size w w' := by
  have HL := hide (Tryz.bits_Len64 4294967295 w (by decide) (by decide))
  rw [blen4] at HL
  have HT : Hid (Calls Tryz.prog 73 #[.pointer (some ⟨D, 0, none⟩), .int .i64 4] w fun x w' => Pan 110 x ∧ Below w.heap.size w w') := take_no 4 hs ha h hn
  clear h hn ha
  go_enter Tryz.func92, Tryz.ntmps92
  go_wp2_with fail
  refine HL.out.mono ?_
  rintro x w1 ⟨rfl, rfl⟩
  go_wp2_with fail
  refine HT.out.mono ?_
  rintro x w1 ⟨rfl, hb⟩
  go_wp2
  exact ⟨rfl, rfl, hb⟩

set_option maxHeartbeats 1000000 in
theorem number4_ok (hs : s.size ≤ 4611686018427387904) (h : Cur w D s at_ e) (hn : at_ + 4 ≤ s.size) : Calls Tryz.prog 92 #[.pointer (some ⟨D, 0, none⟩)] w fun x w' => x = .returned (.int .i64 (beA (bys s) at_ 4 : Int)) ∧ Cur w' D s (at_ + 4) e ∧ But D w w' := by
  have HL := hide (Tryz.bits_Len64 4294967295 w (by decide) (by decide))
  rw [blen4] at HL
  have HT : Hid (Calls Tryz.prog 73 #[.pointer (some ⟨D, 0, none⟩), .int .i64 4] w fun x w' => x = .returned (.string (s.extract at_ (at_ + 4))) ∧ Cur w' D s (at_ + 4) e ∧ But D w w') := take_ok 4 hs h hn
  obtain ⟨t, ht⟩ : ∃ t, t = s.extract at_ (at_ + 4) := ⟨_, rfl⟩
  rw [← ht] at HT
  have hts : t.size = 4 := by rw [ht, ByteArray.size_extract]; omega
  have HG : Hid (∀ i (h : i < t.size), t[i].toNat = byt (bys s) (at_ + i)) := by
    intro i hi
    subst ht
    rw [← byt_get s (at_ + i) (by omega)]
    simp [ByteArray.getElem_extract]
  have HLT : Hid (∀ i, i < 4 → beA (bys s) at_ i < 16777216) := fun i hi => Nat.lt_of_lt_of_le (beA_lt _ _ i) (by have : i = 0 ∨ i = 1 ∨ i = 2 ∨ i = 3 := (by omega); rcases this with rfl | rfl | rfl | rfl <;> decide)
  clear h hn ht
  go_enter Tryz.func92, Tryz.ntmps92
  go_wp2_with fail
  refine HL.out.mono ?_
  rintro x w1 ⟨rfl, rfl⟩
  go_wp2_with fail
  refine HT.out.mono ?_
  rintro x w2 ⟨rfl, hc, hb⟩
  have HC := hide hc
  have HB := hide hb
  clear hc hb HL HT
  go_wp2
  go_loopw [5, 16] (fun p q wr => ∃ i : Nat, i ≤ 4 ∧ p = .int .i64 (beA (bys s) at_ i : Int) ∧ q = .int .i64 (i : Int) ∧ wr = w2) (fun _ q _ => 4 - (intOf q).toNat)
  case atStart => exact ⟨0, Nat.zero_le _, rfl, rfl, rfl⟩
  case round =>
    obtain ⟨i, hi, rfl, rfl, hw⟩ := hrel
    subst hw
    by_cases hlt : i < 4
    · have hlt' : (i : Int) < 4 := by omega
      have hlt2 : i < t.size := by omega
      have hlt3 : (i : Int) < (t.size : Int) := by omega
      have hg : ∀ h : i < t.size, t[i].toNat = byt (bys s) (at_ + i) := fun h => HG.out i h
      have hb2 := byt_lt (bys s) (at_ + i)
      have hn2 := HLT.out i hlt
      obtain ⟨N, hN⟩ : ∃ N, N = beA (bys s) at_ i := ⟨_, rfl⟩
      obtain ⟨b, hbb⟩ : ∃ b, b = byt (bys s) (at_ + i) := ⟨_, rfl⟩
      have HE : Hid (((N * 256 + b : Nat) : Int) = (beA (bys s) at_ (i + 1) : Int)) := hide (by rw [hN, hbb, beA])
      rw [← hN] at hn2 ⊢
      rw [← hbb] at hg hb2
      have e2 := or_byte hb2 hn2
      clear hN hbb
      go_wp2
      exact ⟨⟨i + 1, by omega, by rw [← HE.out]; rfl, by go_num, trivial⟩, by simp [intOf]; omega⟩
    · have hlt' : ¬ (i : Int) < 4 := by omega
      obtain rfl : i = 4 := by omega
      go_wp2
      go_ret
      exact ⟨rfl, HC.out, HB.out⟩

end

end Go.Proofs.YtihnakblcfealaaGreatDoor

namespace Go.Proofs.YtihnakblcfealaaGreatDoor
open Go.RowKit

theorem assertErrno (v : Value) (xT : TypeId) (w : World) : (Instr.typeAssert (.iface 25 v) xT 25 false).run Tryz.prog w = .ok v w := by kernel_rfl

section
variable {w : World} {D : Nat} {s : ByteArray} {at_ e : Nat}

set_option maxHeartbeats 2000000 in
theorem catch_att (b c k f : Nat) (older : List PanicEntry) (h : Cur w D s at_ 0) (hb : w.cell? ⟨b, 0, none⟩ = some (.int .i64 (k : Int))) (hc : w.cell? ⟨c, 0, none⟩ = some (.pointer (some ⟨D, 0, none⟩))) :
    CallsD Tryz.prog 71 #[.pointer (some ⟨b, 0, none⟩), .pointer (some ⟨c, 0, none⟩)] (.panicking ({ v := .iface 25 (.int .i64 (f : Int)), recovered := false } :: older)) w fun x u' w' =>
      x = .returned (.tuple #[]) ∧ u' = .panicking ({ v := .iface 25 (.int .i64 (f : Int)), recovered := true } :: older) ∧ Cur w' D s k f ∧ But D w w' := by
  refine callsD_of_wpS Tryz.func71 rfl fun c₀ cs hu => ?_
  have hfr : (#[Value.pointer (some ⟨b, 0, none⟩), Value.pointer (some ⟨c, 0, none⟩)] ++ Array.replicate (Tryz.f71.ntmps - (#[Value.pointer (some ⟨b, 0, none⟩), Value.pointer (some ⟨c, 0, none⟩)] : Array Value).size) undef) = #[Value.pointer (some ⟨b, 0, none⟩), Value.pointer (some ⟨c, 0, none⟩), undef, undef, undef, undef, undef, undef, undef, undef, undef, undef, undef, undef, undef] := by rw [Tryz.ntmps71]; rfl
  rw [hfr]
  clear hfr
  have c1 := Blk.cell h 1
  have f1 := Blk.free h 1
  have c2 := Blk.cell h 2
  have f2 := Blk.free h 2
  apply wpS_seq
  apply wpS_region
  simp [wpOpsS, go_sem, recoverD, hu, Exit.thenS]
  have HC := hide h
  have hta := assertErrno
  clear h
  refine wpS_of_wp ?_
  go_wp2_with fail
  go_region
  have h9 : Cur ((w.setCell ⟨D, 1, none⟩ (.int .i64 (k : Int))).setCell ⟨D, 2, none⟩ (.int .i64 (f : Int))) D s k f := Blk.set2of3 (Blk.set1of3 HC.out _) _
  exact ⟨rfl, _, rfl, .tuple #[], by simp [results, Tryz.results71, go_sem], rfl, rfl, h9.below ((Below.refl _ _).drew), (((But.refl D w).set 1 _).set 2 _).trans (But.of_below (Below.refl _ _).drew)⟩

theorem idle_att (b c : Nat) (w : World) :
    CallsD Tryz.prog 71 #[.pointer (some ⟨b, 0, none⟩), .pointer (some ⟨c, 0, none⟩)] .returning w fun x u' w' => x = .returned (.tuple #[]) ∧ u' = .returning ∧ w' = w := by
  refine callsD_of_wpS Tryz.func71 rfl fun c₀ cs hu => ?_
  apply wpS_seq
  apply wpS_region
  simp [wpOpsS, go_sem, recoverD, hu, Tryz.ntmps71, Exit.thenS]
  refine wpS_of_wp ?_
  go_wp2
  cases c₀
  simp_all [bodyPostS, results, Tryz.results71]

set_option maxHeartbeats 1000000 in
theorem attempt_idle (fv : Value) (h : Cur w D s at_ e) (he : e ≠ 0) : Calls Tryz.prog 44 #[.pointer (some ⟨D, 0, none⟩), fv] w fun x w' => x = .returned (.tuple #[]) ∧ Below w.heap.size w w' := by
  have h0' : ¬ (e : Int) = 0 := by omega
  have HC := hide (h.below ((Below.refl _ _).alloc (Nat.le_refl _) (.cells #[.pointer (some ⟨D, 0, none⟩)] 36)))
  have c2 := Blk.cell HC.out 2
  clear h
  go_enter_defers Tryz.func44, Tryz.ntmps44
  go_wp2
  simp [bodyPostD, Leaves, results, Tryz.results44, go_sem]
  exact (Below.refl _ _).alloc (Nat.le_refl _) _

set_option maxHeartbeats 1000000 in
theorem attempt_ok (fno : FuncId) (caps : Array Value) (Q : World → World → Prop) (h : Cur w D s at_ 0) (hent : ∀ args w, (callFunc fno args).run Tryz.prog w = .ok (.enter fno args) w)
    (HT : ∀ X, Below w.heap.size w X → Calls Tryz.prog fno caps X fun x X' => x = .returned (.tuple #[]) ∧ Q X X') :
    Calls Tryz.prog 44 #[.pointer (some ⟨D, 0, none⟩), .func (.func fno) #[] caps] w fun x w' => x = .returned (.tuple #[]) ∧ ∃ X, Below w.heap.size w X ∧ Q X w' := by
  have hmf : ∀ (fn : Fn) (first cap : Array Value) (w : World), (Instr.makeFunc fn first cap).run Tryz.prog w = .ok (.func fn first cap) w := fun _ _ _ _ => rfl
  have HB1 : Hid (Below w.heap.size w (w.alloc (.cells #[.pointer (some ⟨D, 0, none⟩)] 36))) := (Below.refl _ _).alloc (Nat.le_refl _) _
  have HC := hide (h.below HB1.out)
  have c1 := Blk.cell HC.out 1
  have c2 := Blk.cell HC.out 2
  have HTT := hide HT
  clear h HT
  go_enter_defers Tryz.func44, Tryz.ntmps44
  go_wp2_with fail
  refine (HTT.out _ (HB1.out.alloc HB1.out.size _)).mono ?_
  rintro x w1 ⟨rfl, hq⟩
  have HQ := hide hq
  clear hq
  go_wp2
  refine leaves_cons (f := 71) (args := #[.pointer (some ⟨w.heap.size + 1, 0, none⟩), .pointer (some ⟨w.heap.size, 0, none⟩)]) (by simp) (by simp [go_sem]) ?_
  refine (idle_att _ _ _).mono ?_
  rintro x u' w'' ⟨rfl, rfl, rfl⟩
  simp [Leaves, settle, results, Tryz.results44, go_sem]
  exact ⟨_, HB1.out.alloc HB1.out.size _, HQ.out⟩

set_option maxHeartbeats 1000000 in
theorem attempt_no (fno : FuncId) (caps : Array Value) (f : Nat) (h : Cur w D s at_ 0) (hent : ∀ args w, (callFunc fno args).run Tryz.prog w = .ok (.enter fno args) w)
    (HT : ∀ X, Below w.heap.size w X → Calls Tryz.prog fno caps X fun x X' => Pan f x ∧ (∃ k, Cur X' D s k 0) ∧ But D X X') :
    Calls Tryz.prog 44 #[.pointer (some ⟨D, 0, none⟩), .func (.func fno) #[] caps] w fun x w' => x = .returned (.tuple #[]) ∧ Cur w' D s at_ f ∧ But D w w' := by
  have hmf : ∀ (fn : Fn) (first cap : Array Value) (w : World), (Instr.makeFunc fn first cap).run Tryz.prog w = .ok (.func fn first cap) w := fun _ _ _ _ => rfl
  have HB1 : Hid (Below w.heap.size w (w.alloc (.cells #[.pointer (some ⟨D, 0, none⟩)] 36))) := (Below.refl _ _).alloc (Nat.le_refl _) _
  have HC := hide (h.below HB1.out)
  have c1 := Blk.cell HC.out 1
  have c2 := Blk.cell HC.out 2
  have HTT := hide HT
  have hDl := h.lt
  have HK1 : Hid (Blk ((w.alloc (.cells #[.pointer (some ⟨D, 0, none⟩)] 36)).alloc (.cells #[.int .i64 (at_ : Int)] 3)) w.heap.size #[.pointer (some ⟨D, 0, none⟩)] 36) := (Blk.new _ _ _).alloc _
  have HK2 : Hid (Blk ((w.alloc (.cells #[.pointer (some ⟨D, 0, none⟩)] 36)).alloc (.cells #[.int .i64 (at_ : Int)] 3)) (w.heap.size + 1) #[.int .i64 (at_ : Int)] 3) := Blk.newAt _ _ (by simp) _ _
  clear h HT
  go_enter_defers Tryz.func44, Tryz.ntmps44
  go_wp2_with fail
  refine (HTT.out _ (HB1.out.alloc HB1.out.size _)).mono ?_
  rintro x w1 ⟨rfl, ⟨k, hk⟩, hb⟩
  have q1 := (hb.blk HK1.out (by omega)).cell 0
  have q2 := (hb.blk HK2.out (by omega)).cell 0
  have HB2 := hide ((But.of_below (HB1.out.alloc HB1.out.size (.cells #[.int .i64 (at_ : Int)] 3))).trans hb)
  have HKK := hide hk
  have HQ1 := hide q1
  have HQ2 := hide q2
  clear hk hb q1 q2
  go_wp2
  refine leaves_cons (f := 71) (args := #[.pointer (some ⟨w.heap.size + 1, 0, none⟩), .pointer (some ⟨w.heap.size, 0, none⟩)]) (by simp) (by simp [go_sem]) ?_
  refine (catch_att _ _ at_ f [] HKK.out HQ2.out HQ1.out).mono ?_
  rintro x u' w'' ⟨rfl, rfl, hc, hb⟩
  simp [Leaves, settle, results, Tryz.results44, go_sem]
  exact ⟨hc, HB2.out.trans hb⟩

end

end Go.Proofs.YtihnakblcfealaaGreatDoor
