/-
  A variable of several cells, in a block by itself.
  A variable's cells, all at once; a variable behind what was laid and called.
  What cursor's Valid, Rune and Runes do.
  What bundle's mayText, mayName and mayValue answer.
  Entries in memory; what bundle's checkEntries answers.
  Tables in memory; where a name stands among them (slices.IndexFunc with a closure).
  What bundle's mayCounts and checkTable answer.
  Worlds that are as they were, but for one block and for new ones.
-/
import Derived.Test.YtihnakblcfealaaGreatDoorENorm
import Derived.Handy
import Derived.Test.YtihnakblcfealaaGreatDoorEB1
import Derived.Test.YtihnakblcfealaaGreatDoorEShelf
import Derived.Deep.RegionHeld3
namespace Go.Proofs.YtihnakblcfealaaGreatDoor
open Go.RowKit

def Blk (w : World) (b : Nat) (cs : Array Value) (t : TypeId) : Prop := w.heap[b]? = some (.cells cs t (0, 0))

section
variable {w w' : World} {b : Nat} {cs : Array Value} {t : TypeId}

theorem Blk.cell (h : Blk w b cs t) (i : Nat) : w.cell? ⟨b, i, none⟩ = cs[i]? := by unfold Blk at h; simp [World.cell?, h]
theorem Blk.free (h : Blk w b cs t) (i : Nat) : w.frozen? ⟨b, i, none⟩ = false := by unfold Blk at h; simp [World.frozen?, h]
theorem Blk.new (w : World) (cs : Array Value) (t : TypeId) : Blk (w.alloc (.cells cs t)) w.heap.size cs t := heap_alloc_new _ _
theorem Blk.newAt (w : World) (n : Nat) (hn : w.heap.size = n) (cs : Array Value) (t : TypeId) : Blk (w.alloc (.cells cs t)) n cs t := by subst hn; exact Blk.new _ _ _
theorem Blk.lt (h : Blk w b cs t) : b < w.heap.size := lt_of_block h
theorem Blk.below (h : Blk w b cs t) {B : Nat} (hb : Below B w w') (hg : b < B) : Blk w' b cs t := by
  unfold Blk at *
  rw [hb.block b hg]; exact h
theorem Blk.alloc (h : Blk w b cs t) (o : Obj) : Blk (w.alloc o) b cs t := by
  have hlt := h.lt
  unfold Blk at *
  rw [Below.heap_alloc _ _ _ hlt]; exact h
theorem Blk.put4 {x0 x1 x2 x3 : Value} (h : Blk w b #[x0, x1, x2, x3] t) (y0 y1 y2 y3 : Value) : Blk ((((w.setCell ⟨b, 0, none⟩ y0).setCell ⟨b, 1, none⟩ y1).setCell ⟨b, 2, none⟩ y2).setCell ⟨b, 3, none⟩ y3) b #[y0, y1, y2, y3] t := by
  unfold Blk at *
  simp only [World.setCell, Array.getElem?_modify, if_true, h, Option.map_some]
  rfl
end

theorem Blk.other {w : World} {b : Nat} {t : TypeId} {cs : Array Value} (h : Blk w b cs t) {a : Addr} (ha : a.block ≠ b) (v : Value) : Blk (w.setCell a v) b cs t := by
  unfold Blk at *
  simp only [World.setCell, Array.getElem?_modify, if_neg ha, h]

end Go.Proofs.YtihnakblcfealaaGreatDoor

namespace Go.Proofs.YtihnakblcfealaaGreatDoor
open Go.RowKit

end Go.Proofs.YtihnakblcfealaaGreatDoor

namespace Go.Proofs.YtihnakblcfealaaGreatDoor
open Go.RowKit

def U8 (w : World) : Prop := Lib.Utf8Tabs 0 1 w
theorem U8.below {w w' : World} (h : U8 w) (hb : Below w.heap.size w w') : U8 w' := Utf8Tabs_below h hb

set_option maxHeartbeats 1000000 in
theorem Valid_any (s : ByteArray) (w : World) (hs : s.size ≤ 9223372036854775807) (hT : U8 w) : Calls Tryz.prog 79 #[.string s] w fun e w' => e = .returned (.bool (runesL (bys s)).isSome) ∧ Below w.heap.size w w' := by
  have HV := hide (Tryz.utf8_ValidString s w hs hT)
  have HE := hide (valid_runes (bys s))
  clear hT
  go_enter Tryz.func79, Tryz.ntmps79
  go_wp2_with fail
  refine HV.out.mono ?_
  rintro e w1 ⟨rfl, hb⟩
  go_wp2
  go_ret
  exact ⟨congrArg (fun b => Ending.returned (Value.bool b)) HE.out, hb⟩

def runesI (l : List UInt8) : Int := match runesL l with | none => -1 | some n => (n : Int)

def runeAt (s : ByteArray) (i : Int) : Nat := if i < 0 ∨ (s.size : Int) ≤ i then 0 else runeL ((bys s).drop i.toNat)

end Go.Proofs.YtihnakblcfealaaGreatDoor

namespace Go.Proofs.YtihnakblcfealaaGreatDoor
open Go.RowKit

set_option maxHeartbeats 1000000 in
theorem mayText_any (s : ByteArray) (w : World) (hs : s.size ≤ 9223372036854775807) (hT : U8 w) : Calls Tryz.prog 93 #[.string s] w fun e w' => e = .returned (.bool (mayText s)) ∧ Below w.heap.size w w' := by
  have HV := hide (Valid_any s w hs hT)
  by_cases h : s.size ≤ 1024
  · have h' : (s.size : Int) ≤ 1024 := by omega
    have e1 : Hid (mayText s = (runesL (bys s)).isSome) := hide (by unfold mayText; rw [decide_eq_true h]; rfl)
    generalize (runesL (bys s)).isSome = b at *
    clear hT h
    go_enter Tryz.func93, Tryz.ntmps93
    go_wp2_with fail
    refine HV.out.mono ?_
    rintro e w1 ⟨rfl, hb⟩
    have HB := hide hb
    clear hb HV
    go_wp2
    go_ret
    exact ⟨by rw [e1.out]; rfl, HB.out⟩
  · have h' : ¬ (s.size : Int) ≤ 1024 := by omega
    have e1 : mayText s = false := by unfold mayText; rw [decide_eq_false h]; rfl
    rw [e1]
    clear hT HV e1
    go_enter Tryz.func93, Tryz.ntmps93
    go_wp2
    go_ret
    exact ⟨rfl, Below.refl _ _⟩

theorem mk_empty {s : ByteArray} (h : s.size = 0) : s = ⟨#[]⟩ := by
  obtain ⟨d⟩ := s
  have : d.size = 0 := h
  rw [Array.size_eq_zero_iff.1 this]

theorem tl_ne {s : ByteArray} (h : s.size ≠ 0) : ¬ s.toList = [] := fun e => h (by rw [sl] at e; rw [← bys_len, e]; rfl)
theorem tl_ie {s : ByteArray} (h : s.size ≠ 0) : s.toList.isEmpty = false := by
  cases e : s.toList with
  | nil => exact absurd e (tl_ne h)
  | cons a l => rfl
theorem tl_nb {s : ByteArray} (h : s.size ≠ 0) : (s.toList == []) = false := by
  cases e : s.toList with
  | nil => exact absurd e (tl_ne h)
  | cons a l => rfl

set_option maxHeartbeats 1000000 in
theorem mayName_any (s : ByteArray) (w : World) (hs : s.size ≤ 9223372036854775807) (hT : U8 w) : Calls Tryz.prog 77 #[.string s] w fun e w' => e = .returned (.bool (mayName s)) ∧ Below w.heap.size w w' := by
  have HV := hide (mayText_any s w hs hT)
  by_cases h : s.size = 0
  · obtain rfl := mk_empty h
    have e1 : mayName ⟨#[]⟩ = false := rfl
    rw [e1]
    clear hT HV e1 h hs
    go_enter Tryz.func77, Tryz.ntmps77
    go_wp2
    go_ret
    exact ⟨rfl, Below.refl _ _⟩
  · have e1 : Hid (mayName s = mayText s) := hide (by unfold mayName; rw [decide_eq_true h]; rfl)
    have h2 := tl_ne h
    have h3 := tl_ie h
    generalize mayText s = b at *
    clear hT h
    go_enter Tryz.func77, Tryz.ntmps77
    go_wp2_with fail
    refine HV.out.mono ?_
    rintro e w1 ⟨rfl, hb⟩
    have HB := hide hb
    clear hb HV
    go_wp2
    go_ret
    exact ⟨by rw [e1.out]; rfl, HB.out⟩

set_option maxHeartbeats 2000000 in
theorem mayValue_any (e : Ent) (w : World) (hs : e.text.size ≤ 9223372036854775807) (hT : U8 w) : Calls Tryz.prog 94 #[entV e] w fun x w' => x = .returned (.bool (mayVal e)) ∧ Below w.heap.size w w' := by
  obtain ⟨k, d, t, n⟩ := e
  have HB0 : Hid (Below w.heap.size w (w.alloc (.cells #[.string k, .int .i64 d, .string t, .int .i64 n] 33))) := (Below.refl _ _).alloc (Nat.le_refl _) _
  have BR0 := hide (Blk.newAt w w.heap.size rfl #[.string k, .int .i64 d, .string t, .int .i64 n] 33)
  obtain ⟨W, hW⟩ : ∃ W, W = w.alloc (.cells #[.string k, .int .i64 d, .string t, .int .i64 n] 33) := ⟨_, rfl⟩
  rw [← hW] at HB0 BR0
  have HT := hide (hT.below HB0.out)
  have HW := hide hW.symm
  clear hT hW
  have c1 := BR0.out.cell 1
  have c2 := BR0.out.cell 2
  have c3 := BR0.out.cell 3
  have KP : Hid (∀ X, Below W.heap.size W X → X.cell? ⟨w.heap.size, 3, none⟩ = some (.int .i64 n)) := hide (fun X hX => (BR0.out.below hX BR0.out.lt).cell 3)
  have hs' : t.size ≤ 9223372036854775807 := hs
  unfold entV
  by_cases h0 : d = 0
  · subst h0
    have HV := hide (mayText_any t W hs' HT.out)
    have e1 : Hid (mayVal ⟨k, 0, t, n⟩ = (mayText t && decide (n = 0))) := hide rfl
    generalize mayText t = b at *
    clear hs hs'
    go_enter Tryz.func94, Tryz.ntmps94
    go_wp2_with (simp only [HW.out])
    refine HV.out.mono ?_
    rintro e w1 ⟨rfl, hb⟩
    have HB := hide (HB0.out.trans (hb.mono HB0.out.size))
    have c3' := KP.out w1 hb
    clear hb HV KP c3
    cases b
    · go_wp2
      go_ret
      exact ⟨by rw [e1.out]; rfl, HB.out⟩
    · by_cases hn : n = 0
      · subst hn
        go_wp2
        go_ret
        exact ⟨by rw [e1.out]; rfl, HB.out⟩
      · have hn' : (n == 0) = false := beq_eq_false_iff_ne.2 hn
        go_wp2
        go_ret
        exact ⟨by rw [e1.out, decide_eq_false hn]; rfl, HB.out⟩
  by_cases h1 : d = 1
  · subst h1
    by_cases ht : t.size = 0
    · obtain rfl := mk_empty ht
      have e1 : Hid (mayVal ⟨k, 1, ⟨#[]⟩, n⟩ = decide (0 ≤ n ∧ n ≤ 4294967295)) := hide (by
        unfold mayVal; rw [if_neg (show ¬ (1 : Int) = 0 by decide), if_pos rfl]; exact decide_eq_decide.2 ⟨fun h => h.2, fun h => ⟨rfl, h⟩⟩)
      clear hs hs' ht h0 KP
      go_enter Tryz.func94, Tryz.ntmps94
      go_wp2_with (simp only [HW.out])
      all_goals go_ret
      all_goals refine ⟨?_, HB0.out⟩
      all_goals rw [e1.out]
      all_goals (refine congrArg (fun b => Ending.returned (Value.bool b)) ?_)
      all_goals (first | exact decide_eq_decide.2 (by omega) | (rw [eq_comm]; exact decide_eq_false (by omega)))
    · have e1 : Hid (mayVal ⟨k, 1, t, n⟩ = false) := hide (by
        unfold mayVal; rw [if_neg (show ¬ (1 : Int) = 0 by decide), if_pos rfl]; exact decide_eq_false (fun h => ht h.1))
      have h2 := tl_ne ht
      clear hs hs' ht h0 KP
      go_enter Tryz.func94, Tryz.ntmps94
      go_wp2_with (simp only [HW.out])
      go_ret
      exact ⟨by rw [e1.out]; rfl, HB0.out⟩
  by_cases h2 : d = 2
  · subst h2
    have HV := hide (mayName_any t W hs' HT.out)
    have e1 : Hid (mayVal ⟨k, 2, t, n⟩ = (mayName t && decide (n = 0))) := hide rfl
    generalize mayName t = b at *
    clear hs hs' h0 h1
    go_enter Tryz.func94, Tryz.ntmps94
    go_wp2_with (simp only [HW.out])
    refine HV.out.mono ?_
    rintro e w1 ⟨rfl, hb⟩
    have HB := hide (HB0.out.trans (hb.mono HB0.out.size))
    have c3' := KP.out w1 hb
    clear hb HV KP c3
    cases b
    · go_wp2
      go_ret
      exact ⟨by rw [e1.out]; rfl, HB.out⟩
    · by_cases hn : n = 0
      · subst hn
        go_wp2
        go_ret
        exact ⟨by rw [e1.out]; rfl, HB.out⟩
      · have hn' : (n == 0) = false := beq_eq_false_iff_ne.2 hn
        go_wp2
        go_ret
        exact ⟨by rw [e1.out, decide_eq_false hn]; rfl, HB.out⟩
  · have e1 : Hid (mayVal ⟨k, d, t, n⟩ = false) := hide (by
      unfold mayVal; rw [if_neg h0, if_neg h1, if_neg h2])
    have h0' : (d == 0) = false := beq_eq_false_iff_ne.2 h0
    have h1' : (d == 1) = false := beq_eq_false_iff_ne.2 h1
    have h2' : (d == 2) = false := beq_eq_false_iff_ne.2 h2
    clear hs hs' KP
    go_enter Tryz.func94, Tryz.ntmps94
    go_wp2_with (simp only [HW.out])
    go_ret
    exact ⟨by rw [e1.out]; rfl, HB0.out⟩

end Go.Proofs.YtihnakblcfealaaGreatDoor

namespace Go.Proofs.YtihnakblcfealaaGreatDoor
open Go.RowKit

def EAt (w : World) (ao : Option Addr) (es : List Ent) : Prop :=
  es = [] ∨ ∃ b o, ao = some ⟨b, o, none⟩ ∧ b < w.heap.size ∧ ∀ i, i < es.length → w.cell? ⟨b, o + i * 4, none⟩ = some (.string (entN es i).key) ∧ w.cell? ⟨b, o + i * 4 + 1, none⟩ = some (.int .i64 (entN es i).kind) ∧ w.cell? ⟨b, o + i * 4 + 2, none⟩ = some (.string (entN es i).text) ∧ w.cell? ⟨b, o + i * 4 + 3, none⟩ = some (.int .i64 (entN es i).num)

theorem EAt.below {w w' : World} {ao : Option Addr} {es : List Ent} (h : EAt w ao es) (hb : Below w.heap.size w w') : EAt w' ao es := by
  rcases h with h | ⟨b, o, h1, h2, h3⟩
  · exact .inl h
  · refine .inr ⟨b, o, h1, Nat.lt_of_lt_of_le h2 hb.size, fun i hi => ?_⟩
    obtain ⟨k0, k1, k2, k3⟩ := h3 i hi
    exact ⟨(hb.cell h2).trans k0, (hb.cell h2).trans k1, (hb.cell h2).trans k2, (hb.cell h2).trans k3⟩

def ESl (w : World) (v : Value) (es : List Ent) : Prop := ∃ ao cap, v = .slice ao es.length cap ∧ es.length ≤ cap ∧ EAt w ao es

theorem ESl.below {w w' : World} {v : Value} {es : List Ent} (h : ESl w v es) (hb : Below w.heap.size w w') : ESl w' v es := by
  obtain ⟨ao, cap, h1, h2, h3⟩ := h
  exact ⟨ao, cap, h1, h2, h3.below hb⟩

def SzE (es : List Ent) : Prop := ∀ i, (entN es i).key.size ≤ 140737488355328 ∧ (entN es i).text.size ≤ 140737488355328

theorem entsE_drop (es : List Ent) (last : ByteArray) (k : Nat) (hk : k < es.length) : entsE last (es.drop k) = if mayName (entN es k).key = false then 120 else if leT (entN es k).key last = true then 122 else if mayVal (entN es k) = false then 120 else entsE (entN es k).key (es.drop (k + 1)) := by
  rw [List.drop_eq_getElem_cons hk]
  have e : entN es k = es[k] := by unfold entN; rw [List.getElem?_eq_getElem hk]; rfl
  rw [e]
  rfl

set_option maxHeartbeats 2000000 in
theorem checkEntries_at (b o cap : Nat) (es : List Ent) (w : World) (hl : es.length ≤ 1024) (hb : b < w.heap.size) (hc : es.length ≤ cap) (hz : SzE es) (hT : U8 w)
    (h3 : ∀ i, i < es.length → w.cell? ⟨b, o + i * 4, none⟩ = some (.string (entN es i).key) ∧ w.cell? ⟨b, o + i * 4 + 1, none⟩ = some (.int .i64 (entN es i).kind) ∧ w.cell? ⟨b, o + i * 4 + 2, none⟩ = some (.string (entN es i).text) ∧ w.cell? ⟨b, o + i * 4 + 3, none⟩ = some (.int .i64 (entN es i).num)) :
    Calls Tryz.prog 78 #[.slice (some ⟨b, o, none⟩) es.length cap] w fun e w' => e = .returned (.int .i64 (entsE ⟨#[]⟩ es : Int)) ∧ Below w.heap.size w w' := by
  have H3 := hide h3
  have HT := hide hT
  have HZ := hide hz
  have HBB := hide hb
  clear h3 hT hz hb
  obtain ⟨L, hL⟩ : ∃ L, L = es.length := ⟨_, rfl⟩
  rw [← hL] at hl hc ⊢
  have HL := hide hL
  clear hL
  obtain ⟨R, hR⟩ : ∃ R, R = entsE ⟨#[]⟩ es := ⟨_, rfl⟩
  rw [← hR]
  have HR := hide hR
  clear hR
  go_enter Tryz.func78, Tryz.ntmps78
  go_wp2
  go_loopw [3, 8] (fun x p wr => ∃ (k : Nat) (last : ByteArray), k ≤ L ∧ x = .string last ∧ p = .int .i64 (k : Int) ∧ Hid (entsE last (es.drop k) = R) ∧ Hid (Below w.heap.size w wr)) (fun _ p _ => L - (intOf p).toNat)
  case atStart => exact ⟨0, ⟨#[]⟩, Nat.zero_le _, rfl, rfl, hide (by rw [HR.out, List.drop_zero]), Below.refl _ _⟩
  case round =>
    obtain ⟨k, last, hk, rfl, rfl, HF, HW⟩ := hrel
    by_cases hlt : k < L
    · have hlt' : (k : Int) < (L : Int) := by omega
      obtain ⟨c0, c1, c2, c3⟩ := H3.out k (by rw [← HL.out]; exact hlt)
      have bc : ∀ j, wr.cell? ⟨b, j, none⟩ = w.cell? ⟨b, j, none⟩ := fun j => HW.out.cell HBB.out
      rw [← bc] at c0 c1 c2 c3
      have e1 := entsE_drop es last k (by rw [← HL.out]; exact hlt)
      rw [HF.out] at e1
      have hzk := HZ.out k
      obtain ⟨g, hg⟩ : ∃ g, g = entN es k := ⟨_, rfl⟩
      rw [← hg] at c0 c1 c2 c3 e1 hzk
      obtain ⟨WA, hWA⟩ : ∃ WA, WA = wr.alloc (.cells #[.string g.key, .int .i64 g.kind, .string g.text, .int .i64 g.num] 33) := ⟨_, rfl⟩
      have BA : Hid (Below wr.heap.size wr WA) := hide (by rw [hWA]; exact (Below.refl _ _).alloc (Nat.le_refl _) _)
      have Q := hide (Blk.newAt wr wr.heap.size rfl #[.string g.key, .int .i64 g.kind, .string g.text, .int .i64 g.num] 33)
      rw [← hWA] at Q
      have HWA := hide hWA.symm
      have TA := hide ((HT.out.below HW.out).below BA.out)
      have W0 := hide (HW.out.trans (BA.out.mono HW.out.size))
      have HN := hide (mayName_any g.key WA (by omega) TA.out)
      have HV0 : Hid (∀ X, Below WA.heap.size WA X → Calls Tryz.prog 94 #[.agg #[.string g.key, .int .i64 g.kind, .string g.text, .int .i64 g.num]] X fun x w' => x = .returned (.bool (mayVal g)) ∧ Below X.heap.size X w') := hide (fun X hX => mayValue_any g X (by omega) (TA.out.below hX))
      have E1 := hide e1
      have q0 := Q.out.cell 0
      clear hg bc hWA HF HW e1 hzk BA TA
      cases hm : mayName g.key with
      | false =>
        have EE : Hid (R = 120) := hide (by rw [E1.out, if_pos hm])
        rw [hm] at HN
        clear E1 hm HV0
        go_wp2_with (simp only [HWA.out])
        refine HN.out.mono ?_
        rintro e w1 ⟨rfl, hb1⟩
        have HB := hide (W0.out.trans (hb1.mono W0.out.size))
        clear hb1 HN W0
        go_wp2
        go_ret
        exact ⟨by rw [EE.out]; rfl, HB.out⟩
      | true =>
        rw [if_neg (by rw [hm]; decide)] at E1
        rw [hm] at HN
        clear hm
        cases hle : leT g.key last with
        | true =>
          have EE : Hid (R = 122) := hide (by rw [E1.out, if_pos hle])
          have hle' : (Op.bytesLess g.key.toList last.toList || g.key.toList == last.toList) = true := hle
          clear E1 hle HV0
          go_wp2_with (simp only [HWA.out])
          refine HN.out.mono ?_
          rintro e w1 ⟨rfl, hb1⟩
          have HB := hide (W0.out.trans (hb1.mono W0.out.size))
          have q0' := (Q.out.below hb1 Q.out.lt).cell 0
          clear hb1 HN W0 q0
          go_wp2
          go_ret
          exact ⟨by rw [EE.out]; rfl, HB.out⟩
        | false =>
          rw [if_neg (by rw [hle]; decide)] at E1
          have hle' : (Op.bytesLess g.key.toList last.toList || g.key.toList == last.toList) = false := hle
          clear hle
          cases hv : mayVal g with
          | false =>
            have EE : Hid (R = 120) := hide (by rw [E1.out, if_pos hv])
            rw [hv] at HV0
            clear E1 hv
            go_wp2_with (simp only [HWA.out])
            refine HN.out.mono ?_
            rintro e w1 ⟨rfl, hb1⟩
            have HB := hide (W0.out.trans (hb1.mono W0.out.size))
            have Q1 := hide (Q.out.below hb1 Q.out.lt)
            have q0' := Q1.out.cell 0
            have q1' := Q1.out.cell 1
            have q2' := Q1.out.cell 2
            have q3' := Q1.out.cell 3
            have HV1 := hide (HV0.out w1 hb1)
            clear hb1 HN W0 q0 HV0
            go_wp2_with fail
            refine HV1.out.mono ?_
            rintro e w2 ⟨rfl, hb2⟩
            have HB2 := hide (HB.out.trans (hb2.mono HB.out.size))
            clear hb2 HV1 HB
            go_wp2
            go_ret
            exact ⟨by rw [EE.out]; rfl, HB2.out⟩
          | true =>
            rw [if_neg (by rw [hv]; decide)] at E1
            rw [hv] at HV0
            clear hv
            go_wp2_with (simp only [HWA.out])
            refine HN.out.mono ?_
            rintro e w1 ⟨rfl, hb1⟩
            have HB := hide (W0.out.trans (hb1.mono W0.out.size))
            have Q1 := hide (Q.out.below hb1 Q.out.lt)
            have q0' := Q1.out.cell 0
            have q1' := Q1.out.cell 1
            have q2' := Q1.out.cell 2
            have q3' := Q1.out.cell 3
            have HV1 := hide (HV0.out w1 hb1)
            clear hb1 HN W0 q0 HV0
            go_wp2_with fail
            refine HV1.out.mono ?_
            rintro e w2 ⟨rfl, hb2⟩
            have HB2 := hide (HB.out.trans (hb2.mono HB.out.size))
            have p0 := (Q1.out.below hb2 Q1.out.lt).cell 0
            clear hb2 HV1 HB q0' q1' q2' q3'
            go_wp2
            exact ⟨⟨k + 1, g.key, by omega, rfl, by go_num, hide E1.out.symm, HB2⟩, by simp [intOf]; omega⟩
    · obtain rfl : k = L := by omega
      have hlt' : ¬ (k : Int) < (k : Int) := by omega
      have E1 : Hid (R = 0) := hide (by rw [← HF.out, List.drop_eq_nil_of_le (by rw [← HL.out]; exact Nat.le_refl _)]; rfl)
      clear HF hlt
      go_wp2
      go_ret
      exact ⟨by rw [E1.out]; rfl, HW.out⟩

set_option maxHeartbeats 1000000 in
theorem checkEntries_nil (ao : Option Addr) (cap : Nat) (w : World) : Calls Tryz.prog 78 #[.slice ao 0 cap] w fun e w' => e = .returned (.int .i64 0) ∧ Below w.heap.size w w' := by
  go_enter Tryz.func78, Tryz.ntmps78
  go_wp2
  go_loopw [3, 8] (fun x p wr => x = .string ⟨#[]⟩ ∧ p = .int .i64 0 ∧ wr = w) (fun _ p _ => 0)
  case atStart => exact ⟨rfl, rfl, rfl⟩
  case round =>
    obtain ⟨rfl, rfl, rfl⟩ := hrel
    go_wp2
    go_ret
    exact ⟨rfl, Below.refl _ _⟩

theorem checkEntries_any {w : World} {v : Value} {es : List Ent} (h : ESl w v es) (hl : es.length ≤ 1024) (hz : SzE es) (hT : U8 w) : Calls Tryz.prog 78 #[v] w fun e w' => e = .returned (.int .i64 (entsE ⟨#[]⟩ es : Int)) ∧ Below w.heap.size w w' := by
  obtain ⟨ao, cap, rfl, h2, h3⟩ := h
  rcases h3 with rfl | ⟨b, o, rfl, hb, h3⟩
  · exact checkEntries_nil ao cap w
  · exact checkEntries_at b o cap es w hl hb h2 hz hT h3

end Go.Proofs.YtihnakblcfealaaGreatDoor

namespace Go.Proofs.YtihnakblcfealaaGreatDoor
open Go.RowKit

def TabAt (w : World) (b o k : Nat) (t : Tab) : Prop :=
  w.cell? ⟨b, o + k * 3, none⟩ = some (.string t.name) ∧ w.cell? ⟨b, o + k * 3 + 1, none⟩ = some (.int .i64 t.parent) ∧ ∃ v, w.cell? ⟨b, o + k * 3 + 2, none⟩ = some v ∧ ESl w v t.ents

theorem TabAt.below {w w' : World} {b o k : Nat} {t : Tab} (h : TabAt w b o k t) (hb : b < w.heap.size) (hw : Below w.heap.size w w') : TabAt w' b o k t := by
  obtain ⟨h1, h2, v, h3, h4⟩ := h
  exact ⟨(hw.cell hb).trans h1, (hw.cell hb).trans h2, v, (hw.cell hb).trans h3, h4.below hw⟩

def TAt (w : World) (ao : Option Addr) (ts : List Tab) : Prop :=
  ts = [] ∨ ∃ b o, ao = some ⟨b, o, none⟩ ∧ b < w.heap.size ∧ ∀ i, i < ts.length → TabAt w b o i (tabN ts i)

theorem TAt.below {w w' : World} {ao : Option Addr} {ts : List Tab} (h : TAt w ao ts) (hb : Below w.heap.size w w') : TAt w' ao ts := by
  rcases h with h | ⟨b, o, h1, h2, h3⟩
  · exact .inl h
  · exact .inr ⟨b, o, h1, Nat.lt_of_lt_of_le h2 hb.size, fun i hi => (h3 i hi).below h2 hb⟩

theorem tabN_take (ts : List Tab) {i n : Nat} (h : i < n) : tabN (ts.take n) i = tabN ts i := by
  unfold tabN; rw [List.getElem?_take_of_lt h]

theorem TAt.take {w : World} {ao : Option Addr} {ts : List Tab} (h : TAt w ao ts) (n : Nat) : TAt w ao (ts.take n) := by
  rcases h with h | ⟨b, o, h1, h2, h3⟩
  · left; simp [h]
  · refine .inr ⟨b, o, h1, h2, fun i hi => ?_⟩
    simp only [List.length_take] at hi
    rw [tabN_take ts (by omega)]
    exact h3 i (by omega)

def TSl (w : World) (v : Value) (ts : List Tab) : Prop := ∃ ao cap, v = .slice ao ts.length cap ∧ ts.length ≤ cap ∧ TAt w ao ts

theorem TSl.below {w w' : World} {v : Value} {ts : List Tab} (h : TSl w v ts) (hb : Below w.heap.size w w') : TSl w' v ts := by
  obtain ⟨ao, cap, h1, h2, h3⟩ := h
  exact ⟨ao, cap, h1, h2, h3.below hb⟩

def SzT (ts : List Tab) : Prop := ∀ i, (tabN ts i).name.size ≤ 140737488355328 ∧ (tabN ts i).ents.length ≤ 4398046511104 ∧ SzE (tabN ts i).ents

theorem eqT (a b : ByteArray) : (a.toList == b.toList) = decide (a = b) := by
  rw [sl, sl]
  by_cases h : a = b
  · subst h; simp
  · have : bys a ≠ bys b := fun e => h (by
      cases a with | mk x => cases b with | mk y => exact congrArg _ (Array.toList_inj.1 e))
    rw [decide_eq_false h]; simpa using this

set_option maxHeartbeats 1000000 in
theorem same_any (D : Nat) (nm n : ByteArray) (p : Int) (v : Value) (w : World) (hD : Blk w D #[.string n] 9) :
    Calls Tryz.prog 88 #[.agg #[.string nm, .int .i64 p, v], .pointer (some ⟨D, 0, none⟩)] w fun e w' => e = .returned (.bool (decide (nm = n))) ∧ Below w.heap.size w w' := by
  have HB0 : Hid (Below w.heap.size w (w.alloc (.cells #[.string nm, .int .i64 p, v] 31))) := (Below.refl _ _).alloc (Nat.le_refl _) _
  have Q := hide (hD.below HB0.out hD.lt)
  have q0 := Q.out.cell 0
  have hlt := hD.lt
  clear hD
  go_enter Tryz.func88, Tryz.ntmps88
  go_wp2
  go_ret
  exact ⟨by rw [← eqT]; rfl, HB0.out⟩

theorem placeF_drop (ts : List Tab) (n : ByteArray) (k : Nat) (hk : k < ts.length) : placeF n k (ts.drop k) = if (tabN ts k).name = n then (k : Int) else placeF n (k + 1) (ts.drop (k + 1)) := by
  rw [List.drop_eq_getElem_cons hk]
  have e : tabN ts k = ts[k] := by unfold tabN; rw [List.getElem?_eq_getElem hk]; rfl
  rw [e]
  rfl

set_option maxHeartbeats 2000000 in
theorem indexFunc_at (D b o cap : Nat) (ts : List Tab) (n : ByteArray) (w : World) (hl : ts.length ≤ 9223372036854775806) (hb : b < w.heap.size) (hc : ts.length ≤ cap) (hD : Blk w D #[.string n] 9)
    (h3 : ∀ i, i < ts.length → TabAt w b o i (tabN ts i)) :
    Calls Tryz.prog 87 #[.slice (some ⟨b, o, none⟩) ts.length cap, .func (.func 88) #[] #[.pointer (some ⟨D, 0, none⟩)]] w fun e w' => e = .returned (.int .i64 (placeT ts n)) ∧ Below w.heap.size w w' := by
  have H3 := hide h3
  have HD := hide hD
  have HBB := hide hb
  clear h3 hD hb
  obtain ⟨L, hL⟩ : ∃ L, L = ts.length := ⟨_, rfl⟩
  rw [← hL] at hl hc ⊢
  have HL := hide hL
  clear hL
  obtain ⟨R, hR⟩ : ∃ R, R = placeT ts n := ⟨_, rfl⟩
  rw [← hR]
  have HR := hide hR
  clear hR
  go_enter Tryz.func87, Tryz.ntmps87
  go_wp2
  go_loopw [8] (fun p wr => ∃ k : Nat, k ≤ L ∧ p = .int .i64 (k : Int) ∧ Hid (placeF n k (ts.drop k) = R) ∧ Hid (Below w.heap.size w wr)) (fun p _ => L - (intOf p).toNat)
  case atStart => exact ⟨0, Nat.zero_le _, rfl, hide (by rw [HR.out, List.drop_zero]; rfl), Below.refl _ _⟩
  case round =>
    obtain ⟨k, hk, rfl, HF, HW⟩ := hrel
    by_cases hlt : k < L
    · have hlt' : (k : Int) < (L : Int) := by omega
      obtain ⟨c0, c1, v, c2, _⟩ := (H3.out k (by rw [← HL.out]; exact hlt)).below HBB.out HW.out
      have e1 := placeF_drop ts n k (by rw [← HL.out]; exact hlt)
      rw [HF.out] at e1
      obtain ⟨g, hg⟩ : ∃ g, g = tabN ts k := ⟨_, rfl⟩
      rw [← hg] at c0 c1 e1
      have HC := hide (same_any D g.name n g.parent v wr (HD.out.below HW.out HD.out.lt))
      have E1 := hide e1
      clear hg e1 HF
      by_cases hq : g.name = n
      · have EE : Hid (R = (k : Int)) := hide (by rw [E1.out, if_pos hq])
        rw [decide_eq_true hq] at HC
        clear E1 hq
        go_wp2_with fail
        refine HC.out.mono ?_
        rintro e w1 ⟨rfl, hb1⟩
        have HB := hide (HW.out.trans (hb1.mono HW.out.size))
        clear hb1 HC HW
        go_wp2
        go_ret
        exact ⟨by rw [EE.out]; rfl, HB.out⟩
      · have EE : Hid (placeF n (k + 1) (ts.drop (k + 1)) = R) := hide (by rw [E1.out, if_neg hq])
        rw [decide_eq_false hq] at HC
        clear E1 hq
        go_wp2_with fail
        refine HC.out.mono ?_
        rintro e w1 ⟨rfl, hb1⟩
        have HB := hide (HW.out.trans (hb1.mono HW.out.size))
        clear hb1 HC HW
        go_wp2
        exact ⟨⟨k + 1, by omega, by go_num, EE, HB⟩, by simp [intOf]; omega⟩
    · obtain rfl : k = L := by omega
      have hlt' : ¬ (k : Int) < (k : Int) := by omega
      have E1 : Hid (R = -1) := hide (by rw [← HF.out, List.drop_eq_nil_of_le (by rw [← HL.out]; exact Nat.le_refl _)]; rfl)
      clear HF hlt
      go_wp2
      go_ret
      exact ⟨by rw [E1.out]; rfl, HW.out⟩

set_option maxHeartbeats 1000000 in
theorem indexFunc_nil (ao : Option Addr) (cap : Nat) (fv : Value) (w : World) :
    Calls Tryz.prog 87 #[.slice ao 0 cap, fv] w fun e w' => e = .returned (.int .i64 (-1)) ∧ Below w.heap.size w w' := by
  go_enter Tryz.func87, Tryz.ntmps87
  go_wp2
  go_loopw [8] (fun p wr => p = .int .i64 0 ∧ wr = w) (fun p _ => 0)
  case atStart => exact ⟨rfl, rfl⟩
  case round =>
    obtain ⟨rfl, rfl⟩ := hrel
    go_wp2
    go_ret
    exact ⟨rfl, Below.refl _ _⟩

set_option maxHeartbeats 1000000 in
theorem placeOf_any {w : World} {v : Value} {ts : List Tab} (n : ByteArray) (h : TSl w v ts) (hl : ts.length ≤ 9223372036854775806) : Calls Tryz.prog 67 #[v, .string n] w fun e w' => e = .returned (.int .i64 (placeT ts n)) ∧ Below w.heap.size w w' := by
  have hmf : ∀ (fn : Fn) (first cap : Array Value) (w : World), (Instr.makeFunc fn first cap).run Tryz.prog w = .ok (.func fn first cap) w := fun _ _ _ _ => rfl
  have HB0 : Hid (Below w.heap.size w (w.alloc (.cells #[.string n] 9))) := (Below.refl _ _).alloc (Nat.le_refl _) _
  have Q := hide (Blk.newAt w w.heap.size rfl #[.string n] 9)
  have HC : Hid (Calls Tryz.prog 87 #[v, .func (.func 88) #[] #[.pointer (some ⟨w.heap.size, 0, none⟩)]] (w.alloc (.cells #[.string n] 9)) fun e w' => e = .returned (.int .i64 (placeT ts n)) ∧ Below (w.alloc (.cells #[.string n] 9)).heap.size (w.alloc (.cells #[.string n] 9)) w') := by
    obtain ⟨ao, cap, rfl, h2, h3⟩ := h.below HB0.out
    rcases h3 with rfl | ⟨b, o, rfl, hb, h3⟩
    · exact indexFunc_nil ao cap _ _
    · exact indexFunc_at _ b o cap ts n _ hl hb h2 Q.out h3
  obtain ⟨ao, cap, rfl, _, _⟩ := h
  generalize placeT ts n = R at *
  clear hl
  go_enter Tryz.func67, Tryz.ntmps67
  go_wp2_with fail
  refine HC.out.mono ?_
  rintro e w1 ⟨rfl, hb1⟩
  have HB := hide (HB0.out.trans (hb1.mono HB0.out.size))
  clear hb1 HC
  go_wp2
  go_ret
  exact ⟨rfl, HB.out⟩

end Go.Proofs.YtihnakblcfealaaGreatDoor

namespace Go.Proofs.YtihnakblcfealaaGreatDoor
open Go.RowKit

theorem all_nextT {α : Type} (p : α → Bool) (l : List α) (k : Nat) (x : α) (h : l[k]? = some x) : (l.take (k + 1)).all p = ((l.take k).all p && p x) := by
  rw [List.take_add_one, h, List.all_append]; simp
theorem all_stopT {α : Type} (p : α → Bool) (l : List α) (k : Nat) (x : α) (h : l[k]? = some x) (hx : p x = false) : l.all p = false := by
  rw [List.all_eq_false]
  exact ⟨x, List.mem_of_getElem? h, by simp [hx]⟩

set_option maxHeartbeats 2000000 in
theorem mayCounts_at (b o cap : Nat) (ts : List Tab) (w : World) (hl : ts.length ≤ 9223372036854775806) (hb : b < w.heap.size) (hc : ts.length ≤ cap) (hz : SzT ts) (h3 : ∀ i, i < ts.length → TabAt w b o i (tabN ts i)) :
    Calls Tryz.prog 54 #[.slice (some ⟨b, o, none⟩) ts.length cap] w fun e w' => e = .returned (.bool (countsOk ts)) ∧ Below w.heap.size w w' := by
  have H3 := hide h3
  have HZ := hide hz
  have HBB := hide hb
  clear h3 hb hz
  obtain ⟨L, hL⟩ : ∃ L, L = ts.length := ⟨_, rfl⟩
  have HCO : Hid (countsOk ts = (ts.all (fun t => decide (t.ents.length ≤ 1024)) && decide (1 ≤ L ∧ L ≤ 16))) := hide (by rw [hL]; rfl)
  rw [← hL] at hl hc ⊢
  have HL := hide hL
  clear hL
  obtain ⟨R, hR⟩ : ∃ R, R = countsOk ts := ⟨_, rfl⟩
  rw [← hR] at HCO ⊢
  clear hR
  go_enter Tryz.func54, Tryz.ntmps54
  go_wp2
  go_loopw [7] (fun p wr => ∃ k : Nat, k ≤ L ∧ p = .int .i64 (k : Int) ∧ Hid ((ts.take k).all (fun t => decide (t.ents.length ≤ 1024)) = true) ∧ Hid (Below w.heap.size w wr)) (fun p _ => L - (intOf p).toNat)
  case atStart => exact ⟨0, Nat.zero_le _, rfl, hide (by rw [List.take_zero]; rfl), Below.refl _ _⟩
  case round =>
    obtain ⟨k, hk, rfl, HF, HW⟩ := hrel
    by_cases hlt : k < L
    · have hlt' : (k : Int) < (L : Int) := by omega
      have hkt : k < ts.length := by rw [← HL.out]; exact hlt
      obtain ⟨c0, c1, v, c2, hes⟩ := (H3.out k hkt).below HBB.out HW.out
      obtain ⟨a2, cap2, rfl, _, _⟩ := hes
      have hz2 := (HZ.out k).2.1
      have hk3 := tabN_some hkt
      obtain ⟨g, hg⟩ : ∃ g, g = tabN ts k := ⟨_, rfl⟩
      rw [← hg] at c0 c1 c2 hz2 hk3
      obtain ⟨n, hn⟩ : ∃ n, n = g.ents.length := ⟨_, rfl⟩
      rw [← hn] at c2 hz2
      have QB := hide (HW.out.alloc HW.out.size (.cells #[.string g.name, .int .i64 g.parent, .slice a2 n cap2] 31))
      by_cases hq : n ≤ 1024
      · have hq' : ¬ (1024 : Int) < (n : Int) := by omega
        have EE : Hid ((ts.take (k + 1)).all (fun t => decide (t.ents.length ≤ 1024)) = true) := hide (by rw [all_nextT _ ts k g hk3, HF.out, ← hn, decide_eq_true hq]; rfl)
        clear HF hg hn hk3 hkt hq HW
        go_wp2
        exact ⟨⟨k + 1, by omega, by go_num, EE, QB⟩, by simp [intOf]; omega⟩
      · have hq' : (1024 : Int) < (n : Int) := by omega
        have EE : Hid (R = false) := hide (by rw [HCO.out, all_stopT _ ts k g hk3 (by rw [← hn]; exact decide_eq_false hq)]; rfl)
        clear HF hg hn hk3 hkt hq HW
        go_wp2
        go_ret
        exact ⟨by rw [EE.out]; rfl, QB.out⟩
    · obtain rfl : k = L := by omega
      have hlt' : ¬ (k : Int) < (k : Int) := by omega
      have E1 : Hid (R = decide (1 ≤ k ∧ k ≤ 16)) := hide (by rw [HCO.out]; rw [List.take_of_length_le (by rw [← HL.out]; exact Nat.le_refl _)] at HF; rw [HF.out]; rfl)
      clear HF hlt HCO
      go_wp2
      all_goals go_ret
      all_goals refine ⟨?_, HW.out⟩
      all_goals rw [E1.out]
      all_goals (refine congrArg (fun b => Ending.returned (Value.bool b)) ?_)
      all_goals (first | exact decide_eq_decide.2 (by omega) | (rw [eq_comm]; exact decide_eq_false (by omega)))

set_option maxHeartbeats 1000000 in
theorem mayCounts_nil (ao : Option Addr) (cap : Nat) (w : World) : Calls Tryz.prog 54 #[.slice ao 0 cap] w fun e w' => e = .returned (.bool false) ∧ Below w.heap.size w w' := by
  go_enter Tryz.func54, Tryz.ntmps54
  go_wp2
  go_loopw [7] (fun p wr => p = .int .i64 0 ∧ wr = w) (fun p _ => 0)
  case atStart => exact ⟨rfl, rfl⟩
  case round =>
    obtain ⟨rfl, rfl⟩ := hrel
    go_wp2
    go_ret
    exact ⟨rfl, Below.refl _ _⟩

theorem mayCounts_any {w : World} {v : Value} {ts : List Tab} (h : TSl w v ts) (hl : ts.length ≤ 9223372036854775806) (hz : SzT ts) : Calls Tryz.prog 54 #[v] w fun e w' => e = .returned (.bool (countsOk ts)) ∧ Below w.heap.size w w' := by
  obtain ⟨ao, cap, rfl, h2, h3⟩ := h
  rcases h3 with rfl | ⟨b, o, rfl, hb, h3⟩
  · exact mayCounts_nil ao cap w
  · exact mayCounts_at b o cap ts w hl hb h2 hz h3

set_option maxHeartbeats 4000000 in
theorem checkTable_any {w : World} {v : Value} {ts : List Tab} (k : Nat) (h : TSl w v ts) (hk : k < ts.length) (hl : ts.length ≤ 16) (hz : SzT ts) (he : (tabN ts k).ents.length ≤ 1024) (hT : U8 w) : Calls Tryz.prog 55 #[v, .int .i64 (k : Int)] w fun e w' => e = .returned (.int .i64 (tabE ts k : Int)) ∧ Below w.heap.size w w' := by
  obtain ⟨ao, cap, rfl, h2, h3⟩ := h
  have h3' := h3
  rcases h3 with rfl | ⟨b, o, rfl, hb, h3⟩
  · simp at hk
  obtain ⟨c0, c1, v2, c2, hes⟩ := h3 k hk
  obtain ⟨zn, _, zE⟩ := hz k
  obtain ⟨WA, hWA⟩ : ∃ WA, WA = (w.alloc (.cells #[.string (tabN ts k).name, .int .i64 (tabN ts k).parent, v2] 31)).drew := ⟨_, rfl⟩
  have BA : Hid (Below w.heap.size w WA) := hide (by rw [hWA]; exact ((Below.refl _ _).alloc (Nat.le_refl _) _).drew)
  have Q : Hid (Blk WA w.heap.size #[.string (tabN ts k).name, .int .i64 (tabN ts k).parent, v2] 31) := hide (by rw [hWA]; exact Blk.newAt w w.heap.size rfl _ _)
  have TA := hide (hT.below BA.out)
  have HN := hide (mayName_any (tabN ts k).name WA (by omega) TA.out)
  have PL : Hid (∀ X, Below WA.heap.size WA X → Calls Tryz.prog 67 #[.slice (some ⟨b, o, none⟩) k cap, .string (tabN ts k).name] X fun e w' => e = .returned (.int .i64 (placeT (ts.take k) (tabN ts k).name)) ∧ Below X.heap.size X w') := hide (fun X hX => placeOf_any _ ⟨some ⟨b, o, none⟩, cap, by rw [List.length_take, Nat.min_eq_left (Nat.le_of_lt hk)], by rw [List.length_take]; omega, ((h3'.take k).below BA.out).below hX⟩ (by rw [List.length_take]; omega))
  have CE : Hid (∀ X, Below WA.heap.size WA X → Calls Tryz.prog 78 #[v2] X fun e w' => e = .returned (.int .i64 (entsE ⟨#[]⟩ (tabN ts k).ents : Int)) ∧ Below X.heap.size X w') := hide (fun X hX => checkEntries_any ((hes.below BA.out).below hX) he zE (TA.out.below hX))
  have KP : Hid (∀ X, Below WA.heap.size WA X → Blk X w.heap.size #[.string (tabN ts k).name, .int .i64 (tabN ts k).parent, v2] 31) := hide (fun X hX => Q.out.below hX Q.out.lt)
  have RE : Hid (tabE ts k = if mayName (tabN ts k).name = false then 120 else if placeT (ts.take k) (tabN ts k).name ≠ -1 ∨ (tabN ts k).parent < -1 ∨ (k : Int) ≤ (tabN ts k).parent then 122 else entsE ⟨#[]⟩ (tabN ts k).ents) := hide rfl
  obtain ⟨R, hR⟩ : ∃ R, R = tabE ts k := ⟨_, rfl⟩
  rw [← hR] at RE ⊢
  obtain ⟨aE, capE, rfl, _, _⟩ := hes
  generalize placeT (ts.take k) (tabN ts k).name = P at *
  generalize entsE ⟨#[]⟩ (tabN ts k).ents = E at *
  generalize (tabN ts k).ents.length = nE at *
  generalize (tabN ts k).name = N at *
  generalize (tabN ts k).parent = D at *
  generalize ts.length = L at *
  have hk' : (k : Int) < (L : Int) := by omega
  have q0 := Q.out.cell 0
  have HWA := hide hWA.symm
  clear hR h3 h3' hT hWA hz zE zn he
  cases hm : mayName N with
  | false =>
    have EE : Hid (R = 120) := hide (by rw [RE.out, if_pos hm])
    rw [hm] at HN
    clear RE hm PL CE
    go_enter Tryz.func55, Tryz.ntmps55
    go_wp2_with fail
    go_region
    go_wp2_with (simp only [HWA.out])
    refine HN.out.mono ?_
    rintro e w1 ⟨rfl, hb1⟩
    have HB := hide (BA.out.trans (hb1.mono BA.out.size))
    clear hb1 HN
    go_wp2
    go_ret
    exact ⟨by rw [EE.out]; rfl, HB.out⟩
  | true =>
    rw [if_neg (by rw [hm]; decide)] at RE
    rw [hm] at HN
    clear hm
    by_cases hP : P = -1
    · subst hP
      by_cases hD : D < -1
      · have EE : Hid (R = 122) := hide (by rw [RE.out, if_pos (.inr (.inl hD))])
        clear RE
        go_enter Tryz.func55, Tryz.ntmps55
        go_wp2_with fail
        go_region
        go_wp2_with (simp only [HWA.out])
        refine HN.out.mono ?_
        rintro e w1 ⟨rfl, hb1⟩
        have HB := hide (BA.out.trans (hb1.mono BA.out.size))
        have Q1 := hide (KP.out w1 hb1)
        have p0 := Q1.out.cell 0
        have PL1 := hide (PL.out w1 hb1)
        have CE1 : Hid (∀ X, Below w1.heap.size w1 X → Calls Tryz.prog 78 #[.slice aE nE capE] X fun e w' => e = .returned (.int .i64 (E : Int)) ∧ Below X.heap.size X w') := hide (fun X hX => CE.out X (hb1.trans (hX.mono hb1.size)))
        clear hb1 HN PL CE KP q0
        go_wp2_with fail
        refine PL1.out.mono ?_
        rintro e w2 ⟨rfl, hb2⟩
        have HB2 := hide (HB.out.trans (hb2.mono HB.out.size))
        have Q2 := hide (Q1.out.below hb2 Q1.out.lt)
        have r1 := Q2.out.cell 1
        have r2 := Q2.out.cell 2
        have CE2 := hide (CE1.out w2 hb2)
        clear hb2 PL1 CE1 p0 HB
        go_wp2
        go_ret
        exact ⟨by rw [EE.out]; rfl, HB2.out⟩
      · by_cases hD2 : (k : Int) ≤ D
        · have EE : Hid (R = 122) := hide (by rw [RE.out, if_pos (.inr (.inr hD2))])
          clear RE
          go_enter Tryz.func55, Tryz.ntmps55
          go_wp2_with fail
          go_region
          go_wp2_with (simp only [HWA.out])
          refine HN.out.mono ?_
          rintro e w1 ⟨rfl, hb1⟩
          have HB := hide (BA.out.trans (hb1.mono BA.out.size))
          have Q1 := hide (KP.out w1 hb1)
          have p0 := Q1.out.cell 0
          have PL1 := hide (PL.out w1 hb1)
          have CE1 : Hid (∀ X, Below w1.heap.size w1 X → Calls Tryz.prog 78 #[.slice aE nE capE] X fun e w' => e = .returned (.int .i64 (E : Int)) ∧ Below X.heap.size X w') := hide (fun X hX => CE.out X (hb1.trans (hX.mono hb1.size)))
          clear hb1 HN PL CE KP q0
          go_wp2_with fail
          refine PL1.out.mono ?_
          rintro e w2 ⟨rfl, hb2⟩
          have HB2 := hide (HB.out.trans (hb2.mono HB.out.size))
          have Q2 := hide (Q1.out.below hb2 Q1.out.lt)
          have r1 := Q2.out.cell 1
          have r2 := Q2.out.cell 2
          have CE2 := hide (CE1.out w2 hb2)
          clear hb2 PL1 CE1 p0 HB
          go_wp2
          go_ret
          exact ⟨by rw [EE.out]; rfl, HB2.out⟩
        · have EE : Hid (R = E) := hide (by rw [RE.out, if_neg (fun h => h.elim (fun h => h rfl) (fun h => h.elim hD hD2))])
          clear RE
          go_enter Tryz.func55, Tryz.ntmps55
          go_wp2_with fail
          go_region
          go_wp2_with (simp only [HWA.out])
          refine HN.out.mono ?_
          rintro e w1 ⟨rfl, hb1⟩
          have HB := hide (BA.out.trans (hb1.mono BA.out.size))
          have Q1 := hide (KP.out w1 hb1)
          have p0 := Q1.out.cell 0
          have PL1 := hide (PL.out w1 hb1)
          have CE1 : Hid (∀ X, Below w1.heap.size w1 X → Calls Tryz.prog 78 #[.slice aE nE capE] X fun e w' => e = .returned (.int .i64 (E : Int)) ∧ Below X.heap.size X w') := hide (fun X hX => CE.out X (hb1.trans (hX.mono hb1.size)))
          clear hb1 HN PL CE KP q0
          go_wp2_with fail
          refine PL1.out.mono ?_
          rintro e w2 ⟨rfl, hb2⟩
          have HB2 := hide (HB.out.trans (hb2.mono HB.out.size))
          have Q2 := hide (Q1.out.below hb2 Q1.out.lt)
          have r1 := Q2.out.cell 1
          have r2 := Q2.out.cell 2
          have CE2 := hide (CE1.out w2 hb2)
          clear hb2 PL1 CE1 p0 HB
          go_wp2_with fail
          refine CE2.out.mono ?_
          rintro e w3 ⟨rfl, hb3⟩
          have HB3 := hide (HB2.out.trans (hb3.mono HB2.out.size))
          clear hb3 CE2 HB2
          go_wp2
          go_ret
          exact ⟨by rw [EE.out]; rfl, HB3.out⟩
    · have EE : Hid (R = 122) := hide (by rw [RE.out, if_pos (.inl hP)])
      have hP' : (P == -1) = false := beq_eq_false_iff_ne.2 hP
      have hP2 : (P != -1) = true := by rw [bne, hP']; rfl
      clear RE
      go_enter Tryz.func55, Tryz.ntmps55
      go_wp2_with fail
      go_region
      go_wp2_with (simp only [HWA.out])
      refine HN.out.mono ?_
      rintro e w1 ⟨rfl, hb1⟩
      have HB := hide (BA.out.trans (hb1.mono BA.out.size))
      have Q1 := hide (KP.out w1 hb1)
      have p0 := Q1.out.cell 0
      have PL1 := hide (PL.out w1 hb1)
      have CE1 : Hid (∀ X, Below w1.heap.size w1 X → Calls Tryz.prog 78 #[.slice aE nE capE] X fun e w' => e = .returned (.int .i64 (E : Int)) ∧ Below X.heap.size X w') := hide (fun X hX => CE.out X (hb1.trans (hX.mono hb1.size)))
      clear hb1 HN PL CE KP q0
      go_wp2_with fail
      refine PL1.out.mono ?_
      rintro e w2 ⟨rfl, hb2⟩
      have HB2 := hide (HB.out.trans (hb2.mono HB.out.size))
      have Q2 := hide (Q1.out.below hb2 Q1.out.lt)
      have r1 := Q2.out.cell 1
      have r2 := Q2.out.cell 2
      have CE2 := hide (CE1.out w2 hb2)
      clear hb2 PL1 CE1 p0 HB
      go_wp2
      go_ret
      exact ⟨by rw [EE.out]; rfl, HB2.out⟩

end Go.Proofs.YtihnakblcfealaaGreatDoor

namespace Go.Proofs.YtihnakblcfealaaGreatDoor
open Go.RowKit

structure But (D : Nat) (w w' : World) : Prop where
  os : w'.os = w.os
  tape : w'.tape = w.tape
  output : w'.output = w.output
  size : w.heap.size ≤ w'.heap.size
  block : ∀ b, b < w.heap.size → b ≠ D → w'.heap[b]? = w.heap[b]?

section
variable {D : Nat} {a b c : World}
theorem But.refl (D : Nat) (w : World) : But D w w := ⟨rfl, rfl, rfl, Nat.le_refl _, fun _ _ _ => rfl⟩
theorem But.of_below (h : Below a.heap.size a b) : But D a b := ⟨h.os, h.tape, h.output, h.size, fun i hi _ => h.block i hi⟩
theorem But.trans (h : But D a b) (k : But D b c) : But D a c :=
  ⟨k.os.trans h.os, k.tape.trans h.tape, k.output.trans h.output, Nat.le_trans h.size k.size, fun i hi hn => (k.block i (Nat.lt_of_lt_of_le hi h.size) hn).trans (h.block i hi hn)⟩
theorem But.set (h : But D a b) (i : Nat) (v : Value) : But D a (b.setCell ⟨D, i, none⟩ v) := by
  refine ⟨h.os, h.tape, h.output, by simpa [World.setCell] using h.size, fun k hk hn => ?_⟩
  rw [← h.block k hk hn]
  have : D ≠ k := fun e => hn e.symm
  simp [World.setCell, Array.getElem?_modify, this]
theorem But.to_below (h : But D a b) {B : Nat} (hB : B ≤ a.heap.size) (hD : B ≤ D) : Below B a b := ⟨h.os, h.tape, h.output, h.size, fun k hk => h.block k (by omega) (by omega)⟩
theorem But.blk (h : But D a b) {g : Nat} {cs : Array Value} {t : TypeId} (hg : Blk a g cs t) (hn : g ≠ D) : Blk b g cs t := by
  have hlt := hg.lt
  unfold Blk at *
  rw [h.block g hlt hn]; exact hg
theorem But.cell (h : But D a b) {g i : Nat} (hg : g < a.heap.size) (hn : g ≠ D) : b.cell? ⟨g, i, none⟩ = a.cell? ⟨g, i, none⟩ := World.cell?_of_block (h.block g hg hn)
end

theorem But.frame {D : Nat} {a b c : World} (h : Below a.heap.size a b) (k : But D b c) (hD : a.heap.size ≤ D) : Below a.heap.size a c := h.trans (k.to_below h.size hD)

theorem Blk.set1of3 {w : World} {b : Nat} {x0 x1 x2 : Value} {t : TypeId} (h : Blk w b #[x0, x1, x2] t) (v : Value) : Blk (w.setCell ⟨b, 1, none⟩ v) b #[x0, v, x2] t := by
  unfold Blk at *
  simp only [World.setCell, Array.getElem?_modify, if_true, h, Option.map_some]
  rfl
theorem Blk.set2of3 {w : World} {b : Nat} {x0 x1 x2 : Value} {t : TypeId} (h : Blk w b #[x0, x1, x2] t) (v : Value) : Blk (w.setCell ⟨b, 2, none⟩ v) b #[x0, x1, v] t := by
  unfold Blk at *
  simp only [World.setCell, Array.getElem?_modify, if_true, h, Option.map_some]
  rfl

end Go.Proofs.YtihnakblcfealaaGreatDoor
