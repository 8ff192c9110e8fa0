/-
  A variable of several cells, in a block by itself.
  A variable's cells, all at once; a variable behind what was laid and called.
  What cursor's Valid, Rune and Runes do.
  What bundle's mayText, mayName and mayValue answer.
  Entries in memory; what bundle's checkEntries answers.
  Tables in memory; where a name stands among them (slices.IndexFunc with a closure).
  An argument that is an api.Bundle, as a row of the given statements hands it over: its tables and entries, where they lie, and how long they may be.
  What bundle's mayCounts and checkTable answer.
  Worlds that are as they were, but for one block and for new ones.
  A set of texts in a map; what bundle's add and textsOf do.
  What bundle's tooManyTexts and Check answer.
-/
import Derived.Test.YtobmdifledegbaaGreatDoorCNorm
import Derived.Handy
import Derived.Test.YtobmdifledegbaaGreatDoorCB1
import Derived.Test.YtobmdifledegbaaGreatDoorCShelf
import Derived.SizedLaws
import Derived.ChangeSame
import Derived.Deep.SlicePairs
import Derived.Deep.RegionHeld3
import Derived.Maps.OwnSet
namespace Go.Proofs.YtobmdifledegbaaGreatDoor
open Go.RowKit

def Blk (w : World) (b : Nat) (cs : Array Value) (t : TypeId) : Prop := w.heap[b]? = some (.cells cs t (0, 0))

section
variable {w w' : World} {b : Nat} {cs : Array Value} {t : TypeId}

theorem Blk.cell (h : Blk w b cs t) (i : Nat) : w.cell? ⟨b, i, none⟩ = cs[i]? := by unfold Blk at h; simp [World.cell?, h]
theorem Blk.free (h : Blk w b cs t) (i : Nat) : w.frozen? ⟨b, i, none⟩ = false := by unfold Blk at h; simp [World.frozen?, h]
theorem Blk.new (w : World) (cs : Array Value) (t : TypeId) : Blk (w.alloc (.cells cs t)) w.heap.size cs t := heap_alloc_new _ _
theorem Blk.newAt (w : World) (n : Nat) (hn : w.heap.size = n) (cs : Array Value) (t : TypeId) : Blk (w.alloc (.cells cs t)) n cs t := by subst hn; exact Blk.new _ _ _
theorem Blk.lt (h : Blk w b cs t) : b < w.heap.size := lt_of_block h
theorem Blk.below (h : Blk w b cs t) {B : Nat} (hb : Below B w w') (hg : b < B) : Blk w' b cs t := by
  unfold Blk at *
  rw [hb.block b hg]; exact h
theorem Blk.alloc (h : Blk w b cs t) (o : Obj) : Blk (w.alloc o) b cs t := by
  have hlt := h.lt
  unfold Blk at *
  rw [Below.heap_alloc _ _ _ hlt]; exact h
theorem Blk.put4 {x0 x1 x2 x3 : Value} (h : Blk w b #[x0, x1, x2, x3] t) (y0 y1 y2 y3 : Value) : Blk ((((w.setCell ⟨b, 0, none⟩ y0).setCell ⟨b, 1, none⟩ y1).setCell ⟨b, 2, none⟩ y2).setCell ⟨b, 3, none⟩ y3) b #[y0, y1, y2, y3] t := by
  unfold Blk at *
  simp only [World.setCell, Array.getElem?_modify, if_true, h, Option.map_some]
  rfl
end

theorem Blk.other {w : World} {b : Nat} {t : TypeId} {cs : Array Value} (h : Blk w b cs t) {a : Addr} (ha : a.block ≠ b) (v : Value) : Blk (w.setCell a v) b cs t := by
  unfold Blk at *
  simp only [World.setCell, Array.getElem?_modify, if_neg ha, h]

end Go.Proofs.YtobmdifledegbaaGreatDoor

namespace Go.Proofs.YtobmdifledegbaaGreatDoor
open Go.RowKit

end Go.Proofs.YtobmdifledegbaaGreatDoor

namespace Go.Proofs.YtobmdifledegbaaGreatDoor
open Go.RowKit

def U8 (w : World) : Prop := Lib.Utf8Tabs 0 1 w
theorem U8.below {w w' : World} (h : U8 w) (hb : Below w.heap.size w w') : U8 w' := Utf8Tabs_below h hb

set_option maxHeartbeats 1000000 in
theorem Valid_any (s : ByteArray) (w : World) (hs : s.size ≤ 9223372036854775807) (hT : U8 w) : Calls Tryz.prog 75 #[.string s] w fun e w' => e = .returned (.bool (runesL (bys s)).isSome) ∧ Below w.heap.size w w' := by
  have HV := hide (Tryz.utf8_ValidString s w hs hT)
  have HE := hide (valid_runes (bys s))
  clear hT
  go_enter Tryz.func75, Tryz.ntmps75
  go_wp2_with fail
  refine HV.out.mono ?_
  rintro e w1 ⟨rfl, hb⟩
  go_wp2
  go_ret
  exact ⟨congrArg (fun b => Ending.returned (Value.bool b)) HE.out, hb⟩

def runesI (l : List UInt8) : Int := match runesL l with | none => -1 | some n => (n : Int)

def runeAt (s : ByteArray) (i : Int) : Nat := if i < 0 ∨ (s.size : Int) ≤ i then 0 else runeL ((bys s).drop i.toNat)

end Go.Proofs.YtobmdifledegbaaGreatDoor

namespace Go.Proofs.YtobmdifledegbaaGreatDoor
open Go.RowKit

set_option maxHeartbeats 1000000 in
theorem mayText_any (s : ByteArray) (w : World) (hs : s.size ≤ 9223372036854775807) (hT : U8 w) : Calls Tryz.prog 71 #[.string s] w fun e w' => e = .returned (.bool (mayText s)) ∧ Below w.heap.size w w' := by
  have HV := hide (Valid_any s w hs hT)
  by_cases h : s.size ≤ 1024
  · have h' : (s.size : Int) ≤ 1024 := by omega
    have e1 : Hid (mayText s = (runesL (bys s)).isSome) := hide (by unfold mayText; rw [decide_eq_true h]; rfl)
    generalize (runesL (bys s)).isSome = b at *
    clear hT h
    go_enter Tryz.func71, Tryz.ntmps71
    go_wp2_with fail
    refine HV.out.mono ?_
    rintro e w1 ⟨rfl, hb⟩
    have HB := hide hb
    clear hb HV
    go_wp2
    go_ret
    exact ⟨by rw [e1.out]; rfl, HB.out⟩
  · have h' : ¬ (s.size : Int) ≤ 1024 := by omega
    have e1 : mayText s = false := by unfold mayText; rw [decide_eq_false h]; rfl
    rw [e1]
    clear hT HV e1
    go_enter Tryz.func71, Tryz.ntmps71
    go_wp2
    go_ret
    exact ⟨rfl, Below.refl _ _⟩

theorem mk_empty {s : ByteArray} (h : s.size = 0) : s = ⟨#[]⟩ := by
  obtain ⟨d⟩ := s
  have : d.size = 0 := h
  rw [Array.size_eq_zero_iff.1 this]

theorem tl_ne {s : ByteArray} (h : s.size ≠ 0) : ¬ s.toList = [] := fun e => h (by rw [sl] at e; rw [← bys_len, e]; rfl)
theorem tl_ie {s : ByteArray} (h : s.size ≠ 0) : s.toList.isEmpty = false := by
  cases e : s.toList with
  | nil => exact absurd e (tl_ne h)
  | cons a l => rfl
theorem tl_nb {s : ByteArray} (h : s.size ≠ 0) : (s.toList == []) = false := by
  cases e : s.toList with
  | nil => exact absurd e (tl_ne h)
  | cons a l => rfl

set_option maxHeartbeats 1000000 in
theorem mayName_any (s : ByteArray) (w : World) (hs : s.size ≤ 9223372036854775807) (hT : U8 w) : Calls Tryz.prog 49 #[.string s] w fun e w' => e = .returned (.bool (mayName s)) ∧ Below w.heap.size w w' := by
  have HV := hide (mayText_any s w hs hT)
  by_cases h : s.size = 0
  · obtain rfl := mk_empty h
    have e1 : mayName ⟨#[]⟩ = false := rfl
    rw [e1]
    clear hT HV e1 h hs
    go_enter Tryz.func49, Tryz.ntmps49
    go_wp2
    go_ret
    exact ⟨rfl, Below.refl _ _⟩
  · have e1 : Hid (mayName s = mayText s) := hide (by unfold mayName; rw [decide_eq_true h]; rfl)
    have h2 := tl_ne h
    have h3 := tl_ie h
    generalize mayText s = b at *
    clear hT h
    go_enter Tryz.func49, Tryz.ntmps49
    go_wp2_with fail
    refine HV.out.mono ?_
    rintro e w1 ⟨rfl, hb⟩
    have HB := hide hb
    clear hb HV
    go_wp2
    go_ret
    exact ⟨by rw [e1.out]; rfl, HB.out⟩

set_option maxHeartbeats 2000000 in
theorem mayValue_any (e : Ent) (w : World) (hs : e.text.size ≤ 9223372036854775807) (hT : U8 w) : Calls Tryz.prog 74 #[entV e] w fun x w' => x = .returned (.bool (mayVal e)) ∧ Below w.heap.size w w' := by
  obtain ⟨k, d, t, n⟩ := e
  have HB0 : Hid (Below w.heap.size w (w.alloc (.cells #[.string k, .int .i64 d, .string t, .int .i64 n] 39))) := (Below.refl _ _).alloc (Nat.le_refl _) _
  have BR0 := hide (Blk.newAt w w.heap.size rfl #[.string k, .int .i64 d, .string t, .int .i64 n] 39)
  obtain ⟨W, hW⟩ : ∃ W, W = w.alloc (.cells #[.string k, .int .i64 d, .string t, .int .i64 n] 39) := ⟨_, rfl⟩
  rw [← hW] at HB0 BR0
  have HT := hide (hT.below HB0.out)
  have HW := hide hW.symm
  clear hT hW
  have c1 := BR0.out.cell 1
  have c2 := BR0.out.cell 2
  have c3 := BR0.out.cell 3
  have KP : Hid (∀ X, Below W.heap.size W X → X.cell? ⟨w.heap.size, 3, none⟩ = some (.int .i64 n)) := hide (fun X hX => (BR0.out.below hX BR0.out.lt).cell 3)
  have hs' : t.size ≤ 9223372036854775807 := hs
  unfold entV
  by_cases h0 : d = 0
  · subst h0
    have HV := hide (mayText_any t W hs' HT.out)
    have e1 : Hid (mayVal ⟨k, 0, t, n⟩ = (mayText t && decide (n = 0))) := hide rfl
    generalize mayText t = b at *
    clear hs hs'
    go_enter Tryz.func74, Tryz.ntmps74
    go_wp2_with (simp only [HW.out])
    refine HV.out.mono ?_
    rintro e w1 ⟨rfl, hb⟩
    have HB := hide (HB0.out.trans (hb.mono HB0.out.size))
    have c3' := KP.out w1 hb
    clear hb HV KP c3
    cases b
    · go_wp2
      go_ret
      exact ⟨by rw [e1.out]; rfl, HB.out⟩
    · by_cases hn : n = 0
      · subst hn
        go_wp2
        go_ret
        exact ⟨by rw [e1.out]; rfl, HB.out⟩
      · have hn' : (n == 0) = false := beq_eq_false_iff_ne.2 hn
        go_wp2
        go_ret
        exact ⟨by rw [e1.out, decide_eq_false hn]; rfl, HB.out⟩
  by_cases h1 : d = 1
  · subst h1
    by_cases ht : t.size = 0
    · obtain rfl := mk_empty ht
      have e1 : Hid (mayVal ⟨k, 1, ⟨#[]⟩, n⟩ = decide (0 ≤ n ∧ n ≤ 4294967295)) := hide (by
        unfold mayVal; rw [if_neg (show ¬ (1 : Int) = 0 by decide), if_pos rfl]; exact decide_eq_decide.2 ⟨fun h => h.2, fun h => ⟨rfl, h⟩⟩)
      clear hs hs' ht h0 KP
      go_enter Tryz.func74, Tryz.ntmps74
      go_wp2_with (simp only [HW.out])
      all_goals go_ret
      all_goals refine ⟨?_, HB0.out⟩
      all_goals rw [e1.out]
      all_goals (refine congrArg (fun b => Ending.returned (Value.bool b)) ?_)
      all_goals (first | exact decide_eq_decide.2 (by omega) | (rw [eq_comm]; exact decide_eq_false (by omega)))
    · have e1 : Hid (mayVal ⟨k, 1, t, n⟩ = false) := hide (by
        unfold mayVal; rw [if_neg (show ¬ (1 : Int) = 0 by decide), if_pos rfl]; exact decide_eq_false (fun h => ht h.1))
      have h2 := tl_ne ht
      clear hs hs' ht h0 KP
      go_enter Tryz.func74, Tryz.ntmps74
      go_wp2_with (simp only [HW.out])
      go_ret
      exact ⟨by rw [e1.out]; rfl, HB0.out⟩
  by_cases h2 : d = 2
  · subst h2
    have HV := hide (mayName_any t W hs' HT.out)
    have e1 : Hid (mayVal ⟨k, 2, t, n⟩ = (mayName t && decide (n = 0))) := hide rfl
    generalize mayName t = b at *
    clear hs hs' h0 h1
    go_enter Tryz.func74, Tryz.ntmps74
    go_wp2_with (simp only [HW.out])
    refine HV.out.mono ?_
    rintro e w1 ⟨rfl, hb⟩
    have HB := hide (HB0.out.trans (hb.mono HB0.out.size))
    have c3' := KP.out w1 hb
    clear hb HV KP c3
    cases b
    · go_wp2
      go_ret
      exact ⟨by rw [e1.out]; rfl, HB.out⟩
    · by_cases hn : n = 0
      · subst hn
        go_wp2
        go_ret
        exact ⟨by rw [e1.out]; rfl, HB.out⟩
      · have hn' : (n == 0) = false := beq_eq_false_iff_ne.2 hn
        go_wp2
        go_ret
        exact ⟨by rw [e1.out, decide_eq_false hn]; rfl, HB.out⟩
  · have e1 : Hid (mayVal ⟨k, d, t, n⟩ = false) := hide (by
      unfold mayVal; rw [if_neg h0, if_neg h1, if_neg h2])
    have h0' : (d == 0) = false := beq_eq_false_iff_ne.2 h0
    have h1' : (d == 1) = false := beq_eq_false_iff_ne.2 h1
    have h2' : (d == 2) = false := beq_eq_false_iff_ne.2 h2
    clear hs hs' KP
    go_enter Tryz.func74, Tryz.ntmps74
    go_wp2_with (simp only [HW.out])
    go_ret
    exact ⟨by rw [e1.out]; rfl, HB0.out⟩

end Go.Proofs.YtobmdifledegbaaGreatDoor

namespace Go.Proofs.YtobmdifledegbaaGreatDoor
open Go.RowKit

def EAt (w : World) (ao : Option Addr) (es : List Ent) : Prop :=
  es = [] ∨ ∃ b o, ao = some ⟨b, o, none⟩ ∧ b < w.heap.size ∧ ∀ i, i < es.length → w.cell? ⟨b, o + i * 4, none⟩ = some (.string (entN es i).key) ∧ w.cell? ⟨b, o + i * 4 + 1, none⟩ = some (.int .i64 (entN es i).kind) ∧ w.cell? ⟨b, o + i * 4 + 2, none⟩ = some (.string (entN es i).text) ∧ w.cell? ⟨b, o + i * 4 + 3, none⟩ = some (.int .i64 (entN es i).num)

theorem EAt.below {w w' : World} {ao : Option Addr} {es : List Ent} (h : EAt w ao es) (hb : Below w.heap.size w w') : EAt w' ao es := by
  rcases h with h | ⟨b, o, h1, h2, h3⟩
  · exact .inl h
  · refine .inr ⟨b, o, h1, Nat.lt_of_lt_of_le h2 hb.size, fun i hi => ?_⟩
    obtain ⟨k0, k1, k2, k3⟩ := h3 i hi
    exact ⟨(hb.cell h2).trans k0, (hb.cell h2).trans k1, (hb.cell h2).trans k2, (hb.cell h2).trans k3⟩

def ESl (w : World) (v : Value) (es : List Ent) : Prop := ∃ ao cap, v = .slice ao es.length cap ∧ es.length ≤ cap ∧ EAt w ao es

theorem ESl.below {w w' : World} {v : Value} {es : List Ent} (h : ESl w v es) (hb : Below w.heap.size w w') : ESl w' v es := by
  obtain ⟨ao, cap, h1, h2, h3⟩ := h
  exact ⟨ao, cap, h1, h2, h3.below hb⟩

def SzE (es : List Ent) : Prop := ∀ i, (entN es i).key.size ≤ 140737488355328 ∧ (entN es i).text.size ≤ 140737488355328

theorem entsE_drop (es : List Ent) (last : ByteArray) (k : Nat) (hk : k < es.length) : entsE last (es.drop k) = if mayName (entN es k).key = false then 120 else if leT (entN es k).key last = true then 122 else if mayVal (entN es k) = false then 120 else entsE (entN es k).key (es.drop (k + 1)) := by
  rw [List.drop_eq_getElem_cons hk]
  have e : entN es k = es[k] := by unfold entN; rw [List.getElem?_eq_getElem hk]; rfl
  rw [e]
  rfl

set_option maxHeartbeats 2000000 in
theorem checkEntries_at (b o cap : Nat) (es : List Ent) (w : World) (hl : es.length ≤ 1024) (hb : b < w.heap.size) (hc : es.length ≤ cap) (hz : SzE es) (hT : U8 w)
    (h3 : ∀ i, i < es.length → w.cell? ⟨b, o + i * 4, none⟩ = some (.string (entN es i).key) ∧ w.cell? ⟨b, o + i * 4 + 1, none⟩ = some (.int .i64 (entN es i).kind) ∧ w.cell? ⟨b, o + i * 4 + 2, none⟩ = some (.string (entN es i).text) ∧ w.cell? ⟨b, o + i * 4 + 3, none⟩ = some (.int .i64 (entN es i).num)) :
    Calls Tryz.prog 51 #[.slice (some ⟨b, o, none⟩) es.length cap] w fun e w' => e = .returned (.int .i64 (entsE ⟨#[]⟩ es : Int)) ∧ Below w.heap.size w w' := by
  have H3 := hide h3
  have HT := hide hT
  have HZ := hide hz
  have HBB := hide hb
  clear h3 hT hz hb
  obtain ⟨L, hL⟩ : ∃ L, L = es.length := ⟨_, rfl⟩
  rw [← hL] at hl hc ⊢
  have HL := hide hL
  clear hL
  obtain ⟨R, hR⟩ : ∃ R, R = entsE ⟨#[]⟩ es := ⟨_, rfl⟩
  rw [← hR]
  have HR := hide hR
  clear hR
  go_enter Tryz.func51, Tryz.ntmps51
  go_wp2
  go_loopw [3, 8] (fun x p wr => ∃ (k : Nat) (last : ByteArray), k ≤ L ∧ x = .string last ∧ p = .int .i64 (k : Int) ∧ Hid (entsE last (es.drop k) = R) ∧ Hid (Below w.heap.size w wr)) (fun _ p _ => L - (intOf p).toNat)
  case atStart => exact ⟨0, ⟨#[]⟩, Nat.zero_le _, rfl, rfl, hide (by rw [HR.out, List.drop_zero]), Below.refl _ _⟩
  case round =>
    obtain ⟨k, last, hk, rfl, rfl, HF, HW⟩ := hrel
    by_cases hlt : k < L
    · have hlt' : (k : Int) < (L : Int) := by omega
      obtain ⟨c0, c1, c2, c3⟩ := H3.out k (by rw [← HL.out]; exact hlt)
      have bc : ∀ j, wr.cell? ⟨b, j, none⟩ = w.cell? ⟨b, j, none⟩ := fun j => HW.out.cell HBB.out
      rw [← bc] at c0 c1 c2 c3
      have e1 := entsE_drop es last k (by rw [← HL.out]; exact hlt)
      rw [HF.out] at e1
      have hzk := HZ.out k
      obtain ⟨g, hg⟩ : ∃ g, g = entN es k := ⟨_, rfl⟩
      rw [← hg] at c0 c1 c2 c3 e1 hzk
      obtain ⟨WA, hWA⟩ : ∃ WA, WA = wr.alloc (.cells #[.string g.key, .int .i64 g.kind, .string g.text, .int .i64 g.num] 39) := ⟨_, rfl⟩
      have BA : Hid (Below wr.heap.size wr WA) := hide (by rw [hWA]; exact (Below.refl _ _).alloc (Nat.le_refl _) _)
      have Q := hide (Blk.newAt wr wr.heap.size rfl #[.string g.key, .int .i64 g.kind, .string g.text, .int .i64 g.num] 39)
      rw [← hWA] at Q
      have HWA := hide hWA.symm
      have TA := hide ((HT.out.below HW.out).below BA.out)
      have W0 := hide (HW.out.trans (BA.out.mono HW.out.size))
      have HN := hide (mayName_any g.key WA (by omega) TA.out)
      have HV0 : Hid (∀ X, Below WA.heap.size WA X → Calls Tryz.prog 74 #[.agg #[.string g.key, .int .i64 g.kind, .string g.text, .int .i64 g.num]] X fun x w' => x = .returned (.bool (mayVal g)) ∧ Below X.heap.size X w') := hide (fun X hX => mayValue_any g X (by omega) (TA.out.below hX))
      have E1 := hide e1
      have q0 := Q.out.cell 0
      clear hg bc hWA HF HW e1 hzk BA TA
      cases hm : mayName g.key with
      | false =>
        have EE : Hid (R = 120) := hide (by rw [E1.out, if_pos hm])
        rw [hm] at HN
        clear E1 hm HV0
        go_wp2_with (simp only [HWA.out])
        refine HN.out.mono ?_
        rintro e w1 ⟨rfl, hb1⟩
        have HB := hide (W0.out.trans (hb1.mono W0.out.size))
        clear hb1 HN W0
        go_wp2
        go_ret
        exact ⟨by rw [EE.out]; rfl, HB.out⟩
      | true =>
        rw [if_neg (by rw [hm]; decide)] at E1
        rw [hm] at HN
        clear hm
        cases hle : leT g.key last with
        | true =>
          have EE : Hid (R = 122) := hide (by rw [E1.out, if_pos hle])
          have hle' : (Op.bytesLess g.key.toList last.toList || g.key.toList == last.toList) = true := hle
          clear E1 hle HV0
          go_wp2_with (simp only [HWA.out])
          refine HN.out.mono ?_
          rintro e w1 ⟨rfl, hb1⟩
          have HB := hide (W0.out.trans (hb1.mono W0.out.size))
          have q0' := (Q.out.below hb1 Q.out.lt).cell 0
          clear hb1 HN W0 q0
          go_wp2
          go_ret
          exact ⟨by rw [EE.out]; rfl, HB.out⟩
        | false =>
          rw [if_neg (by rw [hle]; decide)] at E1
          have hle' : (Op.bytesLess g.key.toList last.toList || g.key.toList == last.toList) = false := hle
          clear hle
          cases hv : mayVal g with
          | false =>
            have EE : Hid (R = 120) := hide (by rw [E1.out, if_pos hv])
            rw [hv] at HV0
            clear E1 hv
            go_wp2_with (simp only [HWA.out])
            refine HN.out.mono ?_
            rintro e w1 ⟨rfl, hb1⟩
            have HB := hide (W0.out.trans (hb1.mono W0.out.size))
            have Q1 := hide (Q.out.below hb1 Q.out.lt)
            have q0' := Q1.out.cell 0
            have q1' := Q1.out.cell 1
            have q2' := Q1.out.cell 2
            have q3' := Q1.out.cell 3
            have HV1 := hide (HV0.out w1 hb1)
            clear hb1 HN W0 q0 HV0
            go_wp2_with fail
            refine HV1.out.mono ?_
            rintro e w2 ⟨rfl, hb2⟩
            have HB2 := hide (HB.out.trans (hb2.mono HB.out.size))
            clear hb2 HV1 HB
            go_wp2
            go_ret
            exact ⟨by rw [EE.out]; rfl, HB2.out⟩
          | true =>
            rw [if_neg (by rw [hv]; decide)] at E1
            rw [hv] at HV0
            clear hv
            go_wp2_with (simp only [HWA.out])
            refine HN.out.mono ?_
            rintro e w1 ⟨rfl, hb1⟩
            have HB := hide (W0.out.trans (hb1.mono W0.out.size))
            have Q1 := hide (Q.out.below hb1 Q.out.lt)
            have q0' := Q1.out.cell 0
            have q1' := Q1.out.cell 1
            have q2' := Q1.out.cell 2
            have q3' := Q1.out.cell 3
            have HV1 := hide (HV0.out w1 hb1)
            clear hb1 HN W0 q0 HV0
            go_wp2_with fail
            refine HV1.out.mono ?_
            rintro e w2 ⟨rfl, hb2⟩
            have HB2 := hide (HB.out.trans (hb2.mono HB.out.size))
            have p0 := (Q1.out.below hb2 Q1.out.lt).cell 0
            clear hb2 HV1 HB q0' q1' q2' q3'
            go_wp2
            exact ⟨⟨k + 1, g.key, by omega, rfl, by go_num, hide E1.out.symm, HB2⟩, by simp [intOf]; omega⟩
    · obtain rfl : k = L := by omega
      have hlt' : ¬ (k : Int) < (k : Int) := by omega
      have E1 : Hid (R = 0) := hide (by rw [← HF.out, List.drop_eq_nil_of_le (by rw [← HL.out]; exact Nat.le_refl _)]; rfl)
      clear HF hlt
      go_wp2
      go_ret
      exact ⟨by rw [E1.out]; rfl, HW.out⟩

set_option maxHeartbeats 1000000 in
theorem checkEntries_nil (ao : Option Addr) (cap : Nat) (w : World) : Calls Tryz.prog 51 #[.slice ao 0 cap] w fun e w' => e = .returned (.int .i64 0) ∧ Below w.heap.size w w' := by
  go_enter Tryz.func51, Tryz.ntmps51
  go_wp2
  go_loopw [3, 8] (fun x p wr => x = .string ⟨#[]⟩ ∧ p = .int .i64 0 ∧ wr = w) (fun _ p _ => 0)
  case atStart => exact ⟨rfl, rfl, rfl⟩
  case round =>
    obtain ⟨rfl, rfl, rfl⟩ := hrel
    go_wp2
    go_ret
    exact ⟨rfl, Below.refl _ _⟩

theorem checkEntries_any {w : World} {v : Value} {es : List Ent} (h : ESl w v es) (hl : es.length ≤ 1024) (hz : SzE es) (hT : U8 w) : Calls Tryz.prog 51 #[v] w fun e w' => e = .returned (.int .i64 (entsE ⟨#[]⟩ es : Int)) ∧ Below w.heap.size w w' := by
  obtain ⟨ao, cap, rfl, h2, h3⟩ := h
  rcases h3 with rfl | ⟨b, o, rfl, hb, h3⟩
  · exact checkEntries_nil ao cap w
  · exact checkEntries_at b o cap es w hl hb h2 hz hT h3

end Go.Proofs.YtobmdifledegbaaGreatDoor

namespace Go.Proofs.YtobmdifledegbaaGreatDoor
open Go.RowKit

def TabAt (w : World) (b o k : Nat) (t : Tab) : Prop :=
  w.cell? ⟨b, o + k * 3, none⟩ = some (.string t.name) ∧ w.cell? ⟨b, o + k * 3 + 1, none⟩ = some (.int .i64 t.parent) ∧ ∃ v, w.cell? ⟨b, o + k * 3 + 2, none⟩ = some v ∧ ESl w v t.ents

theorem TabAt.below {w w' : World} {b o k : Nat} {t : Tab} (h : TabAt w b o k t) (hb : b < w.heap.size) (hw : Below w.heap.size w w') : TabAt w' b o k t := by
  obtain ⟨h1, h2, v, h3, h4⟩ := h
  exact ⟨(hw.cell hb).trans h1, (hw.cell hb).trans h2, v, (hw.cell hb).trans h3, h4.below hw⟩

def TAt (w : World) (ao : Option Addr) (ts : List Tab) : Prop :=
  ts = [] ∨ ∃ b o, ao = some ⟨b, o, none⟩ ∧ b < w.heap.size ∧ ∀ i, i < ts.length → TabAt w b o i (tabN ts i)

theorem TAt.below {w w' : World} {ao : Option Addr} {ts : List Tab} (h : TAt w ao ts) (hb : Below w.heap.size w w') : TAt w' ao ts := by
  rcases h with h | ⟨b, o, h1, h2, h3⟩
  · exact .inl h
  · exact .inr ⟨b, o, h1, Nat.lt_of_lt_of_le h2 hb.size, fun i hi => (h3 i hi).below h2 hb⟩

theorem tabN_take (ts : List Tab) {i n : Nat} (h : i < n) : tabN (ts.take n) i = tabN ts i := by
  unfold tabN; rw [List.getElem?_take_of_lt h]

theorem TAt.take {w : World} {ao : Option Addr} {ts : List Tab} (h : TAt w ao ts) (n : Nat) : TAt w ao (ts.take n) := by
  rcases h with h | ⟨b, o, h1, h2, h3⟩
  · left; simp [h]
  · refine .inr ⟨b, o, h1, h2, fun i hi => ?_⟩
    simp only [List.length_take] at hi
    rw [tabN_take ts (by omega)]
    exact h3 i (by omega)

def TSl (w : World) (v : Value) (ts : List Tab) : Prop := ∃ ao cap, v = .slice ao ts.length cap ∧ ts.length ≤ cap ∧ TAt w ao ts

theorem TSl.below {w w' : World} {v : Value} {ts : List Tab} (h : TSl w v ts) (hb : Below w.heap.size w w') : TSl w' v ts := by
  obtain ⟨ao, cap, h1, h2, h3⟩ := h
  exact ⟨ao, cap, h1, h2, h3.below hb⟩

def SzT (ts : List Tab) : Prop := ∀ i, (tabN ts i).name.size ≤ 140737488355328 ∧ (tabN ts i).ents.length ≤ 4398046511104 ∧ SzE (tabN ts i).ents

theorem eqT (a b : ByteArray) : (a.toList == b.toList) = decide (a = b) := by
  rw [sl, sl]
  by_cases h : a = b
  · subst h; simp
  · have : bys a ≠ bys b := fun e => h (by
      cases a with | mk x => cases b with | mk y => exact congrArg _ (Array.toList_inj.1 e))
    rw [decide_eq_false h]; simpa using this

set_option maxHeartbeats 1000000 in
theorem same_any (D : Nat) (nm n : ByteArray) (p : Int) (v : Value) (w : World) (hD : Blk w D #[.string n] 9) :
    Calls Tryz.prog 73 #[.agg #[.string nm, .int .i64 p, v], .pointer (some ⟨D, 0, none⟩)] w fun e w' => e = .returned (.bool (decide (nm = n))) ∧ Below w.heap.size w w' := by
  have HB0 : Hid (Below w.heap.size w (w.alloc (.cells #[.string nm, .int .i64 p, v] 37))) := (Below.refl _ _).alloc (Nat.le_refl _) _
  have Q := hide (hD.below HB0.out hD.lt)
  have q0 := Q.out.cell 0
  have hlt := hD.lt
  clear hD
  go_enter Tryz.func73, Tryz.ntmps73
  go_wp2
  go_ret
  exact ⟨by rw [← eqT]; rfl, HB0.out⟩

theorem placeF_drop (ts : List Tab) (n : ByteArray) (k : Nat) (hk : k < ts.length) : placeF n k (ts.drop k) = if (tabN ts k).name = n then (k : Int) else placeF n (k + 1) (ts.drop (k + 1)) := by
  rw [List.drop_eq_getElem_cons hk]
  have e : tabN ts k = ts[k] := by unfold tabN; rw [List.getElem?_eq_getElem hk]; rfl
  rw [e]
  rfl

set_option maxHeartbeats 2000000 in
theorem indexFunc_at (D b o cap : Nat) (ts : List Tab) (n : ByteArray) (w : World) (hl : ts.length ≤ 9223372036854775806) (hb : b < w.heap.size) (hc : ts.length ≤ cap) (hD : Blk w D #[.string n] 9)
    (h3 : ∀ i, i < ts.length → TabAt w b o i (tabN ts i)) :
    Calls Tryz.prog 72 #[.slice (some ⟨b, o, none⟩) ts.length cap, .func (.func 73) #[] #[.pointer (some ⟨D, 0, none⟩)]] w fun e w' => e = .returned (.int .i64 (placeT ts n)) ∧ Below w.heap.size w w' := by
  have H3 := hide h3
  have HD := hide hD
  have HBB := hide hb
  clear h3 hD hb
  obtain ⟨L, hL⟩ : ∃ L, L = ts.length := ⟨_, rfl⟩
  rw [← hL] at hl hc ⊢
  have HL := hide hL
  clear hL
  obtain ⟨R, hR⟩ : ∃ R, R = placeT ts n := ⟨_, rfl⟩
  rw [← hR]
  have HR := hide hR
  clear hR
  go_enter Tryz.func72, Tryz.ntmps72
  go_wp2
  go_loopw [8] (fun p wr => ∃ k : Nat, k ≤ L ∧ p = .int .i64 (k : Int) ∧ Hid (placeF n k (ts.drop k) = R) ∧ Hid (Below w.heap.size w wr)) (fun p _ => L - (intOf p).toNat)
  case atStart => exact ⟨0, Nat.zero_le _, rfl, hide (by rw [HR.out, List.drop_zero]; rfl), Below.refl _ _⟩
  case round =>
    obtain ⟨k, hk, rfl, HF, HW⟩ := hrel
    by_cases hlt : k < L
    · have hlt' : (k : Int) < (L : Int) := by omega
      obtain ⟨c0, c1, v, c2, _⟩ := (H3.out k (by rw [← HL.out]; exact hlt)).below HBB.out HW.out
      have e1 := placeF_drop ts n k (by rw [← HL.out]; exact hlt)
      rw [HF.out] at e1
      obtain ⟨g, hg⟩ : ∃ g, g = tabN ts k := ⟨_, rfl⟩
      rw [← hg] at c0 c1 e1
      have HC := hide (same_any D g.name n g.parent v wr (HD.out.below HW.out HD.out.lt))
      have E1 := hide e1
      clear hg e1 HF
      by_cases hq : g.name = n
      · have EE : Hid (R = (k : Int)) := hide (by rw [E1.out, if_pos hq])
        rw [decide_eq_true hq] at HC
        clear E1 hq
        go_wp2_with fail
        refine HC.out.mono ?_
        rintro e w1 ⟨rfl, hb1⟩
        have HB := hide (HW.out.trans (hb1.mono HW.out.size))
        clear hb1 HC HW
        go_wp2
        go_ret
        exact ⟨by rw [EE.out]; rfl, HB.out⟩
      · have EE : Hid (placeF n (k + 1) (ts.drop (k + 1)) = R) := hide (by rw [E1.out, if_neg hq])
        rw [decide_eq_false hq] at HC
        clear E1 hq
        go_wp2_with fail
        refine HC.out.mono ?_
        rintro e w1 ⟨rfl, hb1⟩
        have HB := hide (HW.out.trans (hb1.mono HW.out.size))
        clear hb1 HC HW
        go_wp2
        exact ⟨⟨k + 1, by omega, by go_num, EE, HB⟩, by simp [intOf]; omega⟩
    · obtain rfl : k = L := by omega
      have hlt' : ¬ (k : Int) < (k : Int) := by omega
      have E1 : Hid (R = -1) := hide (by rw [← HF.out, List.drop_eq_nil_of_le (by rw [← HL.out]; exact Nat.le_refl _)]; rfl)
      clear HF hlt
      go_wp2
      go_ret
      exact ⟨by rw [E1.out]; rfl, HW.out⟩

set_option maxHeartbeats 1000000 in
theorem indexFunc_nil (ao : Option Addr) (cap : Nat) (fv : Value) (w : World) :
    Calls Tryz.prog 72 #[.slice ao 0 cap, fv] w fun e w' => e = .returned (.int .i64 (-1)) ∧ Below w.heap.size w w' := by
  go_enter Tryz.func72, Tryz.ntmps72
  go_wp2
  go_loopw [8] (fun p wr => p = .int .i64 0 ∧ wr = w) (fun p _ => 0)
  case atStart => exact ⟨rfl, rfl⟩
  case round =>
    obtain ⟨rfl, rfl⟩ := hrel
    go_wp2
    go_ret
    exact ⟨rfl, Below.refl _ _⟩

set_option maxHeartbeats 1000000 in
theorem placeOf_any {w : World} {v : Value} {ts : List Tab} (n : ByteArray) (h : TSl w v ts) (hl : ts.length ≤ 9223372036854775806) : Calls Tryz.prog 50 #[v, .string n] w fun e w' => e = .returned (.int .i64 (placeT ts n)) ∧ Below w.heap.size w w' := by
  have hmf : ∀ (fn : Fn) (first cap : Array Value) (w : World), (Instr.makeFunc fn first cap).run Tryz.prog w = .ok (.func fn first cap) w := fun _ _ _ _ => rfl
  have HB0 : Hid (Below w.heap.size w (w.alloc (.cells #[.string n] 9))) := (Below.refl _ _).alloc (Nat.le_refl _) _
  have Q := hide (Blk.newAt w w.heap.size rfl #[.string n] 9)
  have HC : Hid (Calls Tryz.prog 72 #[v, .func (.func 73) #[] #[.pointer (some ⟨w.heap.size, 0, none⟩)]] (w.alloc (.cells #[.string n] 9)) fun e w' => e = .returned (.int .i64 (placeT ts n)) ∧ Below (w.alloc (.cells #[.string n] 9)).heap.size (w.alloc (.cells #[.string n] 9)) w') := by
    obtain ⟨ao, cap, rfl, h2, h3⟩ := h.below HB0.out
    rcases h3 with rfl | ⟨b, o, rfl, hb, h3⟩
    · exact indexFunc_nil ao cap _ _
    · exact indexFunc_at _ b o cap ts n _ hl hb h2 Q.out h3
  obtain ⟨ao, cap, rfl, _, _⟩ := h
  generalize placeT ts n = R at *
  clear hl
  go_enter Tryz.func50, Tryz.ntmps50
  go_wp2_with fail
  refine HC.out.mono ?_
  rintro e w1 ⟨rfl, hb1⟩
  have HB := hide (HB0.out.trans (hb1.mono HB0.out.size))
  clear hb1 HC
  go_wp2
  go_ret
  exact ⟨rfl, HB.out⟩

end Go.Proofs.YtobmdifledegbaaGreatDoor

namespace Go.Proofs.YtobmdifledegbaaGreatDoor
open Go.ChangeShapes Go.WideShapes Go.ChangeAt Go.RowKit

theorem Tryz.cellsI : Tryz.prog.cellsOf 3 = 1 := by kernel_rfl
theorem Tryz.cellsSt : Tryz.prog.cellsOf 9 = 1 := by kernel_rfl
theorem Tryz.cellsEn : Tryz.prog.cellsOf 39 = 4 := by kernel_rfl
theorem Tryz.cellsTa : Tryz.prog.cellsOf 37 = 3 := by kernel_rfl
theorem Tryz.cellsBu : Tryz.prog.cellsOf 24 = 1 := by kernel_rfl
theorem Tryz.cellsSe : Tryz.prog.cellsOf 35 = 1 := by kernel_rfl
theorem Tryz.cellsStb : Tryz.prog.cellsOf 22 = 1 := by kernel_rfl
theorem Tryz.bytesEn : Tryz.prog.bytesOf 39 = 48 := by kernel_rfl
theorem Tryz.bytesTa : Tryz.prog.bytesOf 37 = 48 := by kernel_rfl

def LwD {H : Type} (t : TypeId) (d : DataW H) : Prop := ∀ n ∈ DataW.weights Tryz.prog t d, n ≤ reachBytes

theorem weightsAll_mem {H : Type} {P : Program} {e : TypeId} {d : DataW H} {n : Nat} (hn : n ∈ d.weights P e) : ∀ {l : List (DataW H)}, d ∈ l → n ∈ DataW.weightsAll P e l
  | x :: r, h => by
    simp only [DataW.weightsAll, List.mem_append]
    rcases List.mem_cons.1 h with q | q
    · subst q; exact .inl hn
    · exact .inr (weightsAll_mem hn q)

theorem reach47 : reachBytes ≤ 140737488355328 := by decide

section
variable {H : Type} {enc : TypeId × Value → H} {W : World}

set_option maxRecDepth 100000 in
theorem view_ent {k : Nat} {cs : List Value} {d : DataW H} {p : List MemPlace} (h : DataW.trod enc Tryz.prog W 0 (fun _ => true) true k 39 cs = some (d, p)) (hl : cs.length = 4) :
    ∃ e : Ent, cs = [.string e.key, .int .i64 e.kind, .string e.text, .int .i64 e.num] ∧ (LwD 39 d → e.key.size ≤ 140737488355328 ∧ e.text.size ≤ 140737488355328) := by
  obtain ⟨xs, n, _, hx, _, hxl, hfd⟩ := DataW.trod_struct Tryz.underlying39 h
  match cs, hl with
  | [c0, c1, c2, c3], _ =>
    match xs, (show xs.length = 4 by simpa using hxl) with
    | [y0, y1, y2, y3], _ =>
      have k0 : DataW.trod enc Tryz.prog W 0 (fun _ => true) true n 9 [c0] = some y0 := by simpa [Tryz.cellsSt] using hfd 0 _ rfl
      have k1 : DataW.trod enc Tryz.prog W 0 (fun _ => true) true n 3 [c1] = some y1 := by simpa [Tryz.cellsI] using hfd 1 _ rfl
      have k2 : DataW.trod enc Tryz.prog W 0 (fun _ => true) true n 9 [c2] = some y2 := by simpa [Tryz.cellsSt] using hfd 2 _ rfl
      have k3 : DataW.trod enc Tryz.prog W 0 (fun _ => true) true n 3 [c3] = some y3 := by simpa [Tryz.cellsI] using hfd 3 _ rfl
      obtain ⟨z0, e0, f0, _⟩ := DataW.trod_string Tryz.underlying9 k0
      obtain ⟨z1, e1, f1, _⟩ := DataW.trod_int Tryz.underlying3 k1
      obtain ⟨z2, e2, f2, _⟩ := DataW.trod_string Tryz.underlying9 k2
      obtain ⟨z3, e3, f3, _⟩ := DataW.trod_int Tryz.underlying3 k3
      simp at e0 e1 e2 e3
      subst e0 e1 e2 e3 f0 f1 f2 f3
      refine ⟨⟨z0, z1, z2, z3⟩, rfl, fun hw => ?_⟩
      have hd : d = .agg [.lit (.string z0.data.toList), .lit (.int .i64 z1), .lit (.string z2.data.toList), .lit (.int .i64 z3)] := by simpa using congrArg Prod.fst hx
      subst hd
      have h1 := hw z0.data.toList.length (by simp [DataW.weights, DataW.weightsEach, Tryz.underlying39])
      have h2 := hw z2.data.toList.length (by simp [DataW.weights, DataW.weightsEach, Tryz.underlying39])
      have h3 := reach47
      have h4 : z0.data.toList.length = z0.size := bys_len _
      have h5 : z2.data.toList.length = z2.size := bys_len _
      exact ⟨by show z0.size ≤ _; omega, by show z2.size ≤ _; omega⟩

theorem choose_ent {n : Nat} {p : Nat → Ent → Prop} (h : ∀ i, i < n → ∃ f, p i f) : ∃ es : List Ent, es.length = n ∧ ∀ i, i < n → p i (entN es i) := by
  haveI : Inhabited Ent := ⟨Ent.zero⟩
  obtain ⟨q, hq⟩ := Deep.choose_lt (α := Ent) h
  refine ⟨(List.range n).map q, by simp, fun i hi => ?_⟩
  have e : entN ((List.range n).map q) i = q i := by unfold entN; simp [hi]
  rw [e]
  exact hq i hi
theorem choose_tab {n : Nat} {p : Nat → Tab → Prop} (h : ∀ i, i < n → ∃ f, p i f) : ∃ es : List Tab, es.length = n ∧ ∀ i, i < n → p i (tabN es i) := by
  haveI : Inhabited Tab := ⟨Tab.zero⟩
  obtain ⟨q, hq⟩ := Deep.choose_lt (α := Tab) h
  refine ⟨(List.range n).map q, by simp, fun i hi => ?_⟩
  have e : tabN ((List.range n).map q) i = q i := by unfold tabN; simp [hi]
  rw [e]
  exact hq i hi

set_option maxRecDepth 100000 in
theorem view_ents {k : Nat} {v : Value} {d : DataW H} {p : List MemPlace} (hf : DataW.trod enc Tryz.prog W 0 (fun _ => true) true k 35 [v] = some (d, p)) :
    ∃ es : List Ent, ESl W v es ∧ (LwD 35 d → SzE es ∧ es.length ≤ 4398046511104) := by
  rcases Deep.open_slice Tryz.underlying35 hf with ⟨hc, hx⟩ | ⟨a, len, cap, m, n, D, Pl, hc, _, hl, hm, hmm, hx, hel⟩
  · simp at hc
    subst hc
    exact ⟨[], ⟨none, 0, rfl, Nat.le_refl _, .inl rfl⟩, fun _ => ⟨fun i => ⟨Nat.zero_le _, Nat.zero_le _⟩, Nat.zero_le _⟩⟩
  · simp at hc
    subst hc
    simp only [if_true] at hmm
    subst hmm
    rw [Tryz.cellsEn] at hel
    have hd : d = .slice ((List.range len).map D) ((List.range (m - len)).map fun j => D (len + j)) := congrArg Prod.fst hx
    have each : ∀ i, i < len → ∃ e : Ent, (W.cell? (a.add (i * 4)) = some (.string e.key) ∧ W.cell? (a.add (i * 4 + 1)) = some (.int .i64 e.kind) ∧ W.cell? (a.add (i * 4 + 2)) = some (.string e.text) ∧ W.cell? (a.add (i * 4 + 3)) = some (.int .i64 e.num)) ∧ (LwD 39 (D i) → e.key.size ≤ 140737488355328 ∧ e.text.size ≤ 140737488355328) := by
      intro i hi
      obtain ⟨cs', h1, h2⟩ := hel i (by omega)
      obtain ⟨_, hlen, hcell⟩ := World.cells?_some h1
      obtain ⟨e, rfl, hw⟩ := view_ent h2 hlen
      have g0 := hcell 0 (by simp)
      have g1 := hcell 1 (by simp)
      have g2 := hcell 2 (by simp)
      have g3 := hcell 3 (by simp)
      rw [Deep.add_add] at g0 g1 g2 g3
      exact ⟨e, ⟨by simpa using g0, by simpa using g1, by simpa using g2, by simpa using g3⟩, hw⟩
    obtain ⟨es, hfl, hfs⟩ := choose_ent each
    subst hfl
    refine ⟨es, ⟨some a, _, rfl, hl, ?_⟩, fun hw => ⟨fun i => ?_, ?_⟩⟩
    · by_cases h0 : es = []
      · exact .inl h0
      · obtain ⟨b, off, sp⟩ := a
        have hp : 0 < es.length := List.length_pos_iff.2 h0
        have hs : sp = none := by simpa [Addr.add] using World.cell?_spot (hfs 0 hp).1.1
        subst hs
        refine .inr ⟨b, off, rfl, by simpa [Addr.add] using World.block_lt_of_cell? W _ (hfs 0 hp).1.1, fun i hi => ?_⟩
        obtain ⟨q0, q1, q2, q3⟩ := (hfs i hi).1
        rw [Addr.add_lit] at q0 q1 q2 q3
        exact ⟨q0, by rw [Nat.add_assoc]; exact q1, by rw [Nat.add_assoc]; exact q2, by rw [Nat.add_assoc]; exact q3⟩
    · by_cases hi : i < es.length
      · refine (hfs i hi).2 (fun n hn => hw n ?_)
        rw [hd]
        simp only [DataW.weights, Tryz.underlying35, List.mem_cons, List.mem_append]
        exact .inr (.inl (weightsAll_mem hn (List.mem_map_of_mem (List.mem_range.2 hi))))
      · have e : entN es i = Ent.zero := by unfold entN; rw [List.getElem?_eq_none (by omega)]; rfl
        rw [e]
        exact ⟨Nat.zero_le _, Nat.zero_le _⟩
    · have := hw (((List.range es.length).map D).length * 48 + ((List.range (m - es.length)).map fun j => D (es.length + j)).length * 48) (by
        rw [hd]
        simp only [DataW.weights, Tryz.underlying35, List.mem_cons, Tryz.bytesEn]
        left
        rw [Nat.add_mul])
      rw [List.length_map, List.length_range] at this
      have h3 := reach47
      omega

set_option maxRecDepth 100000 in
theorem view_tab {k : Nat} {cs : List Value} {d : DataW H} {p : List MemPlace} (h : DataW.trod enc Tryz.prog W 0 (fun _ => true) true k 37 cs = some (d, p)) (hl : cs.length = 3) :
    ∃ (t : Tab) (v : Value), cs = [.string t.name, .int .i64 t.parent, v] ∧ ESl W v t.ents ∧ (LwD 37 d → t.name.size ≤ 140737488355328 ∧ t.ents.length ≤ 4398046511104 ∧ SzE t.ents) := by
  obtain ⟨xs, n, _, hx, _, hxl, hfd⟩ := DataW.trod_struct Tryz.underlying37 h
  match cs, hl with
  | [c0, c1, c2], _ =>
    match xs, (show xs.length = 3 by simpa using hxl) with
    | [y0, y1, y2], _ =>
      have k0 : DataW.trod enc Tryz.prog W 0 (fun _ => true) true n 9 [c0] = some y0 := by simpa [Tryz.cellsSt] using hfd 0 _ rfl
      have k1 : DataW.trod enc Tryz.prog W 0 (fun _ => true) true n 3 [c1] = some y1 := by simpa [Tryz.cellsI] using hfd 1 _ rfl
      have k2 : DataW.trod enc Tryz.prog W 0 (fun _ => true) true n 35 [c2] = some y2 := by simpa [Tryz.cellsSe] using hfd 2 _ rfl
      obtain ⟨z0, e0, f0, _⟩ := DataW.trod_string Tryz.underlying9 k0
      obtain ⟨z1, e1, f1, _⟩ := DataW.trod_int Tryz.underlying3 k1
      obtain ⟨es, hes, hw2⟩ := view_ents k2
      simp at e0 e1
      subst e0 e1 f0 f1
      refine ⟨⟨z0, z1, es⟩, c2, rfl, hes, fun hw => ?_⟩
      have hd : d = .agg [.lit (.string z0.data.toList), .lit (.int .i64 z1), y2.1] := by simpa using congrArg Prod.fst hx
      subst hd
      have h1 := hw z0.data.toList.length (by simp [DataW.weights, DataW.weightsEach, Tryz.underlying37])
      obtain ⟨h6, h7⟩ := hw2 (fun n hn => hw n (by
        simp only [DataW.weights, Tryz.underlying37]
        simp [DataW.weightsEach, DataW.weights]
        exact .inr hn))
      have h3 := reach47
      have h4 : z0.data.toList.length = z0.size := bys_len _
      exact ⟨by show z0.size ≤ _; omega, h7, h6⟩

set_option maxRecDepth 100000 in
theorem view_tabs {k : Nat} {v : Value} {d : DataW H} {p : List MemPlace} (hf : DataW.trod enc Tryz.prog W 0 (fun _ => true) true k 22 [v] = some (d, p)) :
    ∃ ts : List Tab, TSl W v ts ∧ (LwD 22 d → SzT ts ∧ ts.length ≤ 4398046511104) := by
  rcases Deep.open_slice Tryz.underlying22 hf with ⟨hc, hx⟩ | ⟨a, len, cap, m, n, D, Pl, hc, _, hl, hm, hmm, hx, hel⟩
  · simp at hc
    subst hc
    exact ⟨[], ⟨none, 0, rfl, Nat.le_refl _, .inl rfl⟩, fun _ => ⟨fun i => ⟨Nat.zero_le _, Nat.zero_le _, fun j => ⟨Nat.zero_le _, Nat.zero_le _⟩⟩, Nat.zero_le _⟩⟩
  · simp at hc
    subst hc
    simp only [if_true] at hmm
    subst hmm
    rw [Tryz.cellsTa] at hel
    have hd : d = .slice ((List.range len).map D) ((List.range (m - len)).map fun j => D (len + j)) := congrArg Prod.fst hx
    have each : ∀ i, i < len → ∃ t : Tab, (W.cell? (a.add (i * 3)) = some (.string t.name) ∧ W.cell? (a.add (i * 3 + 1)) = some (.int .i64 t.parent) ∧ ∃ v, W.cell? (a.add (i * 3 + 2)) = some v ∧ ESl W v t.ents) ∧ (LwD 37 (D i) → t.name.size ≤ 140737488355328 ∧ t.ents.length ≤ 4398046511104 ∧ SzE t.ents) := by
      intro i hi
      obtain ⟨cs', h1, h2⟩ := hel i (by omega)
      obtain ⟨_, hlen, hcell⟩ := World.cells?_some h1
      obtain ⟨t, v, rfl, hes, hw⟩ := view_tab h2 hlen
      have g0 := hcell 0 (by simp)
      have g1 := hcell 1 (by simp)
      have g2 := hcell 2 (by simp)
      rw [Deep.add_add] at g0 g1 g2
      exact ⟨t, ⟨by simpa using g0, by simpa using g1, v, by simpa using g2, hes⟩, hw⟩
    obtain ⟨ts, hfl, hfs⟩ := choose_tab each
    subst hfl
    refine ⟨ts, ⟨some a, _, rfl, hl, ?_⟩, fun hw => ⟨fun i => ?_, ?_⟩⟩
    · by_cases h0 : ts = []
      · exact .inl h0
      · obtain ⟨b, off, sp⟩ := a
        have hp : 0 < ts.length := List.length_pos_iff.2 h0
        have hs : sp = none := by simpa [Addr.add] using World.cell?_spot (hfs 0 hp).1.1
        subst hs
        refine .inr ⟨b, off, rfl, by simpa [Addr.add] using World.block_lt_of_cell? W _ (hfs 0 hp).1.1, fun i hi => ?_⟩
        obtain ⟨q0, q1, v, q2, q3⟩ := (hfs i hi).1
        rw [Addr.add_lit] at q0 q1 q2
        exact ⟨q0, by rw [Nat.add_assoc]; exact q1, v, by rw [Nat.add_assoc]; exact q2, q3⟩
    · by_cases hi : i < ts.length
      · refine (hfs i hi).2 (fun n hn => hw n ?_)
        rw [hd]
        simp only [DataW.weights, Tryz.underlying22, List.mem_cons, List.mem_append]
        exact .inr (.inl (weightsAll_mem hn (List.mem_map_of_mem (List.mem_range.2 hi))))
      · have e : tabN ts i = Tab.zero := by unfold tabN; rw [List.getElem?_eq_none (by omega)]; rfl
        rw [e]
        exact ⟨Nat.zero_le _, Nat.zero_le _, fun j => ⟨Nat.zero_le _, Nat.zero_le _⟩⟩
    · have := hw (((List.range ts.length).map D).length * 48 + ((List.range (m - ts.length)).map fun j => D (ts.length + j)).length * 48) (by
        rw [hd]
        simp only [DataW.weights, Tryz.underlying22, List.mem_cons, Tryz.bytesTa]
        left
        rw [Nat.add_mul])
      rw [List.length_map, List.length_range] at this
      have h3 := reach47
      omega

set_option maxRecDepth 100000 in
theorem viewBun {base : Nat} {v : Value} {d : DataW H} {p : List MemPlace} (hval : Value.okWide Tryz.prog W .any base 24 v) (h : DataW.Trod enc Tryz.prog W 0 (fun _ => true) true 24 v d p) :
    ∃ (u : Value) (ts : List Tab), v = .agg #[u] ∧ TSl W u ts ∧ ∀ {es : List TypeId} {ds : List (DataW H)}, (DataW.weightsEach Tryz.prog es ds).all (· ≤ reachBytes) = true → ∀ {j : Nat}, es[j]? = some 24 → ds[j]? = some d → SzT ts ∧ ts.length ≤ 4398046511104 := by
  obtain ⟨cs, rfl, hsz⟩ := okWide_struct Tryz.underlying24 hval
  rw [Tryz.cellsBu] at hsz
  obtain ⟨l⟩ := cs
  match l, hsz with
  | [c0], _ =>
    obtain ⟨fuel, hf⟩ := h
    obtain ⟨xs, n, _, hx, _, hxl, hfd⟩ := DataW.trod_struct Tryz.underlying24 hf
    match xs, (show xs.length = 1 by simpa using hxl) with
    | [y0], _ =>
      have k0 : DataW.trod enc Tryz.prog W 0 (fun _ => true) true n 22 [c0] = some y0 := by simpa [Value.cells, Tryz.cellsStb] using hfd 0 _ rfl
      obtain ⟨ts, hts, hw⟩ := view_tabs k0
      refine ⟨c0, ts, rfl, hts, fun hz j ht hd => hw (fun n hn => ?_)⟩
      have hd' : d = .agg [y0.1] := by simpa using congrArg Prod.fst hx
      have := List.all_eq_true.1 hz n (DataW.weights_mem_each ht hd n (by
        rw [hd']
        simp only [DataW.weights, Tryz.underlying24]
        simp [DataW.weightsEach]
        exact hn))
      simpa using this

end

end Go.Proofs.YtobmdifledegbaaGreatDoor

namespace Go.Proofs.YtobmdifledegbaaGreatDoor
open Go.RowKit

theorem all_nextT {α : Type} (p : α → Bool) (l : List α) (k : Nat) (x : α) (h : l[k]? = some x) : (l.take (k + 1)).all p = ((l.take k).all p && p x) := by
  rw [List.take_add_one, h, List.all_append]; simp
theorem all_stopT {α : Type} (p : α → Bool) (l : List α) (k : Nat) (x : α) (h : l[k]? = some x) (hx : p x = false) : l.all p = false := by
  rw [List.all_eq_false]
  exact ⟨x, List.mem_of_getElem? h, by simp [hx]⟩

set_option maxHeartbeats 2000000 in
theorem mayCounts_at (b o cap : Nat) (ts : List Tab) (w : World) (hl : ts.length ≤ 9223372036854775806) (hb : b < w.heap.size) (hc : ts.length ≤ cap) (hz : SzT ts) (h3 : ∀ i, i < ts.length → TabAt w b o i (tabN ts i)) :
    Calls Tryz.prog 20 #[.slice (some ⟨b, o, none⟩) ts.length cap] w fun e w' => e = .returned (.bool (countsOk ts)) ∧ Below w.heap.size w w' := by
  have H3 := hide h3
  have HZ := hide hz
  have HBB := hide hb
  clear h3 hb hz
  obtain ⟨L, hL⟩ : ∃ L, L = ts.length := ⟨_, rfl⟩
  have HCO : Hid (countsOk ts = (ts.all (fun t => decide (t.ents.length ≤ 1024)) && decide (1 ≤ L ∧ L ≤ 16))) := hide (by rw [hL]; rfl)
  rw [← hL] at hl hc ⊢
  have HL := hide hL
  clear hL
  obtain ⟨R, hR⟩ : ∃ R, R = countsOk ts := ⟨_, rfl⟩
  rw [← hR] at HCO ⊢
  clear hR
  go_enter Tryz.func20, Tryz.ntmps20
  go_wp2
  go_loopw [7] (fun p wr => ∃ k : Nat, k ≤ L ∧ p = .int .i64 (k : Int) ∧ Hid ((ts.take k).all (fun t => decide (t.ents.length ≤ 1024)) = true) ∧ Hid (Below w.heap.size w wr)) (fun p _ => L - (intOf p).toNat)
  case atStart => exact ⟨0, Nat.zero_le _, rfl, hide (by rw [List.take_zero]; rfl), Below.refl _ _⟩
  case round =>
    obtain ⟨k, hk, rfl, HF, HW⟩ := hrel
    by_cases hlt : k < L
    · have hlt' : (k : Int) < (L : Int) := by omega
      have hkt : k < ts.length := by rw [← HL.out]; exact hlt
      obtain ⟨c0, c1, v, c2, hes⟩ := (H3.out k hkt).below HBB.out HW.out
      obtain ⟨a2, cap2, rfl, _, _⟩ := hes
      have hz2 := (HZ.out k).2.1
      have hk3 := tabN_some hkt
      obtain ⟨g, hg⟩ : ∃ g, g = tabN ts k := ⟨_, rfl⟩
      rw [← hg] at c0 c1 c2 hz2 hk3
      obtain ⟨n, hn⟩ : ∃ n, n = g.ents.length := ⟨_, rfl⟩
      rw [← hn] at c2 hz2
      have QB := hide (HW.out.alloc HW.out.size (.cells #[.string g.name, .int .i64 g.parent, .slice a2 n cap2] 37))
      by_cases hq : n ≤ 1024
      · have hq' : ¬ (1024 : Int) < (n : Int) := by omega
        have EE : Hid ((ts.take (k + 1)).all (fun t => decide (t.ents.length ≤ 1024)) = true) := hide (by rw [all_nextT _ ts k g hk3, HF.out, ← hn, decide_eq_true hq]; rfl)
        clear HF hg hn hk3 hkt hq HW
        go_wp2
        exact ⟨⟨k + 1, by omega, by go_num, EE, QB⟩, by simp [intOf]; omega⟩
      · have hq' : (1024 : Int) < (n : Int) := by omega
        have EE : Hid (R = false) := hide (by rw [HCO.out, all_stopT _ ts k g hk3 (by rw [← hn]; exact decide_eq_false hq)]; rfl)
        clear HF hg hn hk3 hkt hq HW
        go_wp2
        go_ret
        exact ⟨by rw [EE.out]; rfl, QB.out⟩
    · obtain rfl : k = L := by omega
      have hlt' : ¬ (k : Int) < (k : Int) := by omega
      have E1 : Hid (R = decide (1 ≤ k ∧ k ≤ 16)) := hide (by rw [HCO.out]; rw [List.take_of_length_le (by rw [← HL.out]; exact Nat.le_refl _)] at HF; rw [HF.out]; rfl)
      clear HF hlt HCO
      go_wp2
      all_goals go_ret
      all_goals refine ⟨?_, HW.out⟩
      all_goals rw [E1.out]
      all_goals (refine congrArg (fun b => Ending.returned (Value.bool b)) ?_)
      all_goals (first | exact decide_eq_decide.2 (by omega) | (rw [eq_comm]; exact decide_eq_false (by omega)))

set_option maxHeartbeats 1000000 in
theorem mayCounts_nil (ao : Option Addr) (cap : Nat) (w : World) : Calls Tryz.prog 20 #[.slice ao 0 cap] w fun e w' => e = .returned (.bool false) ∧ Below w.heap.size w w' := by
  go_enter Tryz.func20, Tryz.ntmps20
  go_wp2
  go_loopw [7] (fun p wr => p = .int .i64 0 ∧ wr = w) (fun p _ => 0)
  case atStart => exact ⟨rfl, rfl⟩
  case round =>
    obtain ⟨rfl, rfl⟩ := hrel
    go_wp2
    go_ret
    exact ⟨rfl, Below.refl _ _⟩

theorem mayCounts_any {w : World} {v : Value} {ts : List Tab} (h : TSl w v ts) (hl : ts.length ≤ 9223372036854775806) (hz : SzT ts) : Calls Tryz.prog 20 #[v] w fun e w' => e = .returned (.bool (countsOk ts)) ∧ Below w.heap.size w w' := by
  obtain ⟨ao, cap, rfl, h2, h3⟩ := h
  rcases h3 with rfl | ⟨b, o, rfl, hb, h3⟩
  · exact mayCounts_nil ao cap w
  · exact mayCounts_at b o cap ts w hl hb h2 hz h3

set_option maxHeartbeats 4000000 in
theorem checkTable_any {w : World} {v : Value} {ts : List Tab} (k : Nat) (h : TSl w v ts) (hk : k < ts.length) (hl : ts.length ≤ 16) (hz : SzT ts) (he : (tabN ts k).ents.length ≤ 1024) (hT : U8 w) : Calls Tryz.prog 21 #[v, .int .i64 (k : Int)] w fun e w' => e = .returned (.int .i64 (tabE ts k : Int)) ∧ Below w.heap.size w w' := by
  obtain ⟨ao, cap, rfl, h2, h3⟩ := h
  have h3' := h3
  rcases h3 with rfl | ⟨b, o, rfl, hb, h3⟩
  · simp at hk
  obtain ⟨c0, c1, v2, c2, hes⟩ := h3 k hk
  obtain ⟨zn, _, zE⟩ := hz k
  obtain ⟨WA, hWA⟩ : ∃ WA, WA = (w.alloc (.cells #[.string (tabN ts k).name, .int .i64 (tabN ts k).parent, v2] 37)).drew := ⟨_, rfl⟩
  have BA : Hid (Below w.heap.size w WA) := hide (by rw [hWA]; exact ((Below.refl _ _).alloc (Nat.le_refl _) _).drew)
  have Q : Hid (Blk WA w.heap.size #[.string (tabN ts k).name, .int .i64 (tabN ts k).parent, v2] 37) := hide (by rw [hWA]; exact Blk.newAt w w.heap.size rfl _ _)
  have TA := hide (hT.below BA.out)
  have HN := hide (mayName_any (tabN ts k).name WA (by omega) TA.out)
  have PL : Hid (∀ X, Below WA.heap.size WA X → Calls Tryz.prog 50 #[.slice (some ⟨b, o, none⟩) k cap, .string (tabN ts k).name] X fun e w' => e = .returned (.int .i64 (placeT (ts.take k) (tabN ts k).name)) ∧ Below X.heap.size X w') := hide (fun X hX => placeOf_any _ ⟨some ⟨b, o, none⟩, cap, by rw [List.length_take, Nat.min_eq_left (Nat.le_of_lt hk)], by rw [List.length_take]; omega, ((h3'.take k).below BA.out).below hX⟩ (by rw [List.length_take]; omega))
  have CE : Hid (∀ X, Below WA.heap.size WA X → Calls Tryz.prog 51 #[v2] X fun e w' => e = .returned (.int .i64 (entsE ⟨#[]⟩ (tabN ts k).ents : Int)) ∧ Below X.heap.size X w') := hide (fun X hX => checkEntries_any ((hes.below BA.out).below hX) he zE (TA.out.below hX))
  have KP : Hid (∀ X, Below WA.heap.size WA X → Blk X w.heap.size #[.string (tabN ts k).name, .int .i64 (tabN ts k).parent, v2] 37) := hide (fun X hX => Q.out.below hX Q.out.lt)
  have RE : Hid (tabE ts k = if mayName (tabN ts k).name = false then 120 else if placeT (ts.take k) (tabN ts k).name ≠ -1 ∨ (tabN ts k).parent < -1 ∨ (k : Int) ≤ (tabN ts k).parent then 122 else entsE ⟨#[]⟩ (tabN ts k).ents) := hide rfl
  obtain ⟨R, hR⟩ : ∃ R, R = tabE ts k := ⟨_, rfl⟩
  rw [← hR] at RE ⊢
  obtain ⟨aE, capE, rfl, _, _⟩ := hes
  generalize placeT (ts.take k) (tabN ts k).name = P at *
  generalize entsE ⟨#[]⟩ (tabN ts k).ents = E at *
  generalize (tabN ts k).ents.length = nE at *
  generalize (tabN ts k).name = N at *
  generalize (tabN ts k).parent = D at *
  generalize ts.length = L at *
  have hk' : (k : Int) < (L : Int) := by omega
  have q0 := Q.out.cell 0
  have HWA := hide hWA.symm
  clear hR h3 h3' hT hWA hz zE zn he
  cases hm : mayName N with
  | false =>
    have EE : Hid (R = 120) := hide (by rw [RE.out, if_pos hm])
    rw [hm] at HN
    clear RE hm PL CE
    go_enter Tryz.func21, Tryz.ntmps21
    go_wp2_with fail
    go_region
    go_wp2_with (simp only [HWA.out])
    refine HN.out.mono ?_
    rintro e w1 ⟨rfl, hb1⟩
    have HB := hide (BA.out.trans (hb1.mono BA.out.size))
    clear hb1 HN
    go_wp2
    go_ret
    exact ⟨by rw [EE.out]; rfl, HB.out⟩
  | true =>
    rw [if_neg (by rw [hm]; decide)] at RE
    rw [hm] at HN
    clear hm
    by_cases hP : P = -1
    · subst hP
      by_cases hD : D < -1
      · have EE : Hid (R = 122) := hide (by rw [RE.out, if_pos (.inr (.inl hD))])
        clear RE
        go_enter Tryz.func21, Tryz.ntmps21
        go_wp2_with fail
        go_region
        go_wp2_with (simp only [HWA.out])
        refine HN.out.mono ?_
        rintro e w1 ⟨rfl, hb1⟩
        have HB := hide (BA.out.trans (hb1.mono BA.out.size))
        have Q1 := hide (KP.out w1 hb1)
        have p0 := Q1.out.cell 0
        have PL1 := hide (PL.out w1 hb1)
        have CE1 : Hid (∀ X, Below w1.heap.size w1 X → Calls Tryz.prog 51 #[.slice aE nE capE] X fun e w' => e = .returned (.int .i64 (E : Int)) ∧ Below X.heap.size X w') := hide (fun X hX => CE.out X (hb1.trans (hX.mono hb1.size)))
        clear hb1 HN PL CE KP q0
        go_wp2_with fail
        refine PL1.out.mono ?_
        rintro e w2 ⟨rfl, hb2⟩
        have HB2 := hide (HB.out.trans (hb2.mono HB.out.size))
        have Q2 := hide (Q1.out.below hb2 Q1.out.lt)
        have r1 := Q2.out.cell 1
        have r2 := Q2.out.cell 2
        have CE2 := hide (CE1.out w2 hb2)
        clear hb2 PL1 CE1 p0 HB
        go_wp2
        go_ret
        exact ⟨by rw [EE.out]; rfl, HB2.out⟩
      · by_cases hD2 : (k : Int) ≤ D
        · have EE : Hid (R = 122) := hide (by rw [RE.out, if_pos (.inr (.inr hD2))])
          clear RE
          go_enter Tryz.func21, Tryz.ntmps21
          go_wp2_with fail
          go_region
          go_wp2_with (simp only [HWA.out])
          refine HN.out.mono ?_
          rintro e w1 ⟨rfl, hb1⟩
          have HB := hide (BA.out.trans (hb1.mono BA.out.size))
          have Q1 := hide (KP.out w1 hb1)
          have p0 := Q1.out.cell 0
          have PL1 := hide (PL.out w1 hb1)
          have CE1 : Hid (∀ X, Below w1.heap.size w1 X → Calls Tryz.prog 51 #[.slice aE nE capE] X fun e w' => e = .returned (.int .i64 (E : Int)) ∧ Below X.heap.size X w') := hide (fun X hX => CE.out X (hb1.trans (hX.mono hb1.size)))
          clear hb1 HN PL CE KP q0
          go_wp2_with fail
          refine PL1.out.mono ?_
          rintro e w2 ⟨rfl, hb2⟩
          have HB2 := hide (HB.out.trans (hb2.mono HB.out.size))
          have Q2 := hide (Q1.out.below hb2 Q1.out.lt)
          have r1 := Q2.out.cell 1
          have r2 := Q2.out.cell 2
          have CE2 := hide (CE1.out w2 hb2)
          clear hb2 PL1 CE1 p0 HB
          go_wp2
          go_ret
          exact ⟨by rw [EE.out]; rfl, HB2.out⟩
        · have EE : Hid (R = E) := hide (by rw [RE.out, if_neg (fun h => h.elim (fun h => h rfl) (fun h => h.elim hD hD2))])
          clear RE
          go_enter Tryz.func21, Tryz.ntmps21
          go_wp2_with fail
          go_region
          go_wp2_with (simp only [HWA.out])
          refine HN.out.mono ?_
          rintro e w1 ⟨rfl, hb1⟩
          have HB := hide (BA.out.trans (hb1.mono BA.out.size))
          have Q1 := hide (KP.out w1 hb1)
          have p0 := Q1.out.cell 0
          have PL1 := hide (PL.out w1 hb1)
          have CE1 : Hid (∀ X, Below w1.heap.size w1 X → Calls Tryz.prog 51 #[.slice aE nE capE] X fun e w' => e = .returned (.int .i64 (E : Int)) ∧ Below X.heap.size X w') := hide (fun X hX => CE.out X (hb1.trans (hX.mono hb1.size)))
          clear hb1 HN PL CE KP q0
          go_wp2_with fail
          refine PL1.out.mono ?_
          rintro e w2 ⟨rfl, hb2⟩
          have HB2 := hide (HB.out.trans (hb2.mono HB.out.size))
          have Q2 := hide (Q1.out.below hb2 Q1.out.lt)
          have r1 := Q2.out.cell 1
          have r2 := Q2.out.cell 2
          have CE2 := hide (CE1.out w2 hb2)
          clear hb2 PL1 CE1 p0 HB
          go_wp2_with fail
          refine CE2.out.mono ?_
          rintro e w3 ⟨rfl, hb3⟩
          have HB3 := hide (HB2.out.trans (hb3.mono HB2.out.size))
          clear hb3 CE2 HB2
          go_wp2
          go_ret
          exact ⟨by rw [EE.out]; rfl, HB3.out⟩
    · have EE : Hid (R = 122) := hide (by rw [RE.out, if_pos (.inl hP)])
      have hP' : (P == -1) = false := beq_eq_false_iff_ne.2 hP
      have hP2 : (P != -1) = true := by rw [bne, hP']; rfl
      clear RE
      go_enter Tryz.func21, Tryz.ntmps21
      go_wp2_with fail
      go_region
      go_wp2_with (simp only [HWA.out])
      refine HN.out.mono ?_
      rintro e w1 ⟨rfl, hb1⟩
      have HB := hide (BA.out.trans (hb1.mono BA.out.size))
      have Q1 := hide (KP.out w1 hb1)
      have p0 := Q1.out.cell 0
      have PL1 := hide (PL.out w1 hb1)
      have CE1 : Hid (∀ X, Below w1.heap.size w1 X → Calls Tryz.prog 51 #[.slice aE nE capE] X fun e w' => e = .returned (.int .i64 (E : Int)) ∧ Below X.heap.size X w') := hide (fun X hX => CE.out X (hb1.trans (hX.mono hb1.size)))
      clear hb1 HN PL CE KP q0
      go_wp2_with fail
      refine PL1.out.mono ?_
      rintro e w2 ⟨rfl, hb2⟩
      have HB2 := hide (HB.out.trans (hb2.mono HB.out.size))
      have Q2 := hide (Q1.out.below hb2 Q1.out.lt)
      have r1 := Q2.out.cell 1
      have r2 := Q2.out.cell 2
      have CE2 := hide (CE1.out w2 hb2)
      clear hb2 PL1 CE1 p0 HB
      go_wp2
      go_ret
      exact ⟨by rw [EE.out]; rfl, HB2.out⟩

end Go.Proofs.YtobmdifledegbaaGreatDoor

namespace Go.Proofs.YtobmdifledegbaaGreatDoor
open Go.RowKit

structure But (D : Nat) (w w' : World) : Prop where
  os : w'.os = w.os
  tape : w'.tape = w.tape
  output : w'.output = w.output
  size : w.heap.size ≤ w'.heap.size
  block : ∀ b, b < w.heap.size → b ≠ D → w'.heap[b]? = w.heap[b]?

section
variable {D : Nat} {a b c : World}
theorem But.refl (D : Nat) (w : World) : But D w w := ⟨rfl, rfl, rfl, Nat.le_refl _, fun _ _ _ => rfl⟩
theorem But.of_below (h : Below a.heap.size a b) : But D a b := ⟨h.os, h.tape, h.output, h.size, fun i hi _ => h.block i hi⟩
theorem But.trans (h : But D a b) (k : But D b c) : But D a c :=
  ⟨k.os.trans h.os, k.tape.trans h.tape, k.output.trans h.output, Nat.le_trans h.size k.size, fun i hi hn => (k.block i (Nat.lt_of_lt_of_le hi h.size) hn).trans (h.block i hi hn)⟩
theorem But.set (h : But D a b) (i : Nat) (v : Value) : But D a (b.setCell ⟨D, i, none⟩ v) := by
  refine ⟨h.os, h.tape, h.output, by simpa [World.setCell] using h.size, fun k hk hn => ?_⟩
  rw [← h.block k hk hn]
  have : D ≠ k := fun e => hn e.symm
  simp [World.setCell, Array.getElem?_modify, this]
theorem But.to_below (h : But D a b) {B : Nat} (hB : B ≤ a.heap.size) (hD : B ≤ D) : Below B a b := ⟨h.os, h.tape, h.output, h.size, fun k hk => h.block k (by omega) (by omega)⟩
theorem But.blk (h : But D a b) {g : Nat} {cs : Array Value} {t : TypeId} (hg : Blk a g cs t) (hn : g ≠ D) : Blk b g cs t := by
  have hlt := hg.lt
  unfold Blk at *
  rw [h.block g hlt hn]; exact hg
theorem But.cell (h : But D a b) {g i : Nat} (hg : g < a.heap.size) (hn : g ≠ D) : b.cell? ⟨g, i, none⟩ = a.cell? ⟨g, i, none⟩ := World.cell?_of_block (h.block g hg hn)
end

theorem But.frame {D : Nat} {a b c : World} (h : Below a.heap.size a b) (k : But D b c) (hD : a.heap.size ≤ D) : Below a.heap.size a c := h.trans (k.to_below h.size hD)

theorem Blk.set1of3 {w : World} {b : Nat} {x0 x1 x2 : Value} {t : TypeId} (h : Blk w b #[x0, x1, x2] t) (v : Value) : Blk (w.setCell ⟨b, 1, none⟩ v) b #[x0, v, x2] t := by
  unfold Blk at *
  simp only [World.setCell, Array.getElem?_modify, if_true, h, Option.map_some]
  rfl
theorem Blk.set2of3 {w : World} {b : Nat} {x0 x1 x2 : Value} {t : TypeId} (h : Blk w b #[x0, x1, x2] t) (v : Value) : Blk (w.setCell ⟨b, 2, none⟩ v) b #[x0, x1, v] t := by
  unfold Blk at *
  simp only [World.setCell, Array.getElem?_modify, if_true, h, Option.map_some]
  rfl

end Go.Proofs.YtobmdifledegbaaGreatDoor

namespace Go.Proofs.YtobmdifledegbaaGreatDoor
open Go.RowKit Go.Maps

def litT (s : ByteArray) : Lit := .string s.data.toList

def SetAt (w : World) (g n : Nat) (l : List ByteArray) : Prop := w.ownsMap (H := Unit) Tryz.prog 9 (unitElem (H := Unit)) g n (setOf (.agg []) (l.map litT))

theorem keyS : Keyed Tryz.prog 9 := string_keyed Tryz.underlying9

theorem But.of_grown {w w' : World} {g : Nat} (h : w.grownBy w' (some g)) : But g w w' := ⟨h.os, h.tape, h.output, h.size, fun b hb hn => h.block b hb (by intro e; cases e; exact hn rfl)⟩

theorem But.to_grown {w w' : World} {g : Nat} (h : But g w w') {row : Option Nat} (hr : row = some g) : w.grownBy w' row := by
  subst hr
  exact ⟨h.os, h.tape, h.output, h.size, fun b hb hn => h.block b hb (fun e => hn (by rw [e]))⟩

theorem SetAt.made (w : World) : SetAt (w.alloc (.map #[] 0)) w.heap.size 0 [] := World.ownsMap_made _ _ _ _
theorem SetAt.lt {w : World} {g n : Nat} {l : List ByteArray} (h : SetAt w g n l) : g < w.heap.size := World.ownsMap.lt h
theorem SetAt.alloc {w : World} {g n : Nat} {l : List ByteArray} (h : SetAt w g n l) (o : Obj) : SetAt (w.alloc o) g n l := World.ownsMap.alloc h o
theorem SetAt.but {w w' : World} {g n D : Nat} {l : List ByteArray} (h : SetAt w g n l) (hb : But D w w') (hn : g ≠ D) : SetAt w' g n l := World.ownsMap.kept h (hb.to_grown rfl) (by intro e; cases e; exact hn rfl)
theorem SetAt.below {w w' : World} {g n : Nat} {l : List ByteArray} (h : SetAt w g n l) (hb : Below w.heap.size w w') : SetAt w' g n l := h.but (D := w.heap.size) (.of_below hb) (Nat.ne_of_lt h.lt)

set_option maxHeartbeats 1000000 in
theorem addS_any {w : World} {g n : Nat} {l : List ByteArray} (s : ByteArray) (h : SetAt w g n l) (hn : n < 1000000) (hs : s.size ≤ 140737488355328) :
    Calls Tryz.prog 47 #[.map (some g), .string s] w fun e w' => e = .returned (.tuple #[]) ∧ SetAt w' g (n + 1) (l ++ [s]) ∧ But g w w' := by
  have hkey : keyOf Tryz.prog 9 (.string s) = some (litT s) := WideMaps.keyOf_string_mk Tryz.underlying9 (by unfold maxLen; omega)
  have hown : w.ownsMap (H := Unit) Tryz.prog 9 (unitElem (H := Unit)) g n (setOf (.agg []) (l.map litT)) := h
  clear h
  go_enter Tryz.func47, Tryz.ntmps47
  go_wp2_with (first | (at_mapUpdate; refine wpList_mapUpdate_own _ rfl _ _ _ 59 rfl 9 _ keyS Tryz.underlying59 _ g n _ rfl hown (by unfold maxLen; omega) _ _ _ rfl rfl hkey _ [] unitElem_mk ?_; intro w1 hown1 hgrow1) | go_in)
  go_end0
  refine ⟨rfl, ?_, But.of_grown hgrow1⟩
  unfold SetAt
  rw [List.map_append, List.map_singleton, setOf_snoc]
  exact hown1

theorem texts_next (ts : List Tab) (k : Nat) (hk : k < ts.length) : textsL (ts.take (k + 1)) = textsL (ts.take k) ++ (tabN ts k).name :: (tabN ts k).ents.flatMap entL := by
  rw [List.take_add_one, tabN_some hk]
  unfold textsL
  rw [List.flatMap_append]
  simp [tabL]

theorem ents_next (es : List Ent) (j : Nat) (hj : j < es.length) : (es.take (j + 1)).flatMap entL = (es.take j).flatMap entL ++ entL (entN es j) := by
  rw [List.take_add_one, entN_some hj, List.flatMap_append]
  simp

set_option maxHeartbeats 4000000 in
theorem textsOf_at (b o cap : Nat) (ts : List Tab) (w : World) (hl : ts.length ≤ 16) (hb : b < w.heap.size) (hc : ts.length ≤ cap) (hz : SzT ts) (he : ∀ k, (tabN ts k).ents.length ≤ 1024) (h3 : ∀ i, i < ts.length → TabAt w b o i (tabN ts i)) :
    Calls Tryz.prog 24 #[.slice (some ⟨b, o, none⟩) ts.length cap] w fun e w' => e = .returned (.map (some w.heap.size)) ∧ (∃ n, SetAt w' w.heap.size n (textsL ts)) ∧ Below w.heap.size w w' := by
  have hmm := @run_makeMap Tryz.prog
  have H3 := hide h3
  have HZ := hide hz
  have HE := hide he
  have HBB := hide hb
  clear h3 hz he hb
  obtain ⟨L, hL⟩ : ∃ L, L = ts.length := ⟨_, rfl⟩
  rw [← hL] at hl hc ⊢
  have HL := hide hL
  clear hL
  obtain ⟨G, hG⟩ : ∃ G, G = w.heap.size := ⟨_, rfl⟩
  have HG := hide hG
  rw [← hG] at ⊢
  have S0 : Hid (SetAt (w.alloc (.map #[] 0)) G 0 []) := hide (by rw [hG]; exact SetAt.made w)
  have B0 : Hid (Below w.heap.size w (w.alloc (.map #[] 0))) := (Below.refl _ _).alloc (Nat.le_refl _) _
  clear hG
  go_enter Tryz.func24, Tryz.ntmps24
  go_wp2_with (simp only [← HG.out])
  go_loopw [11] (fun p wr => ∃ k n : Nat, k ≤ L ∧ p = .int .i64 (k : Int) ∧ n ≤ 2049 * k ∧ Hid (SetAt wr G n (textsL (ts.take k))) ∧ Hid (Below w.heap.size w wr)) (fun p _ => L - (intOf p).toNat)
  case atStart => exact ⟨0, 0, Nat.zero_le _, rfl, Nat.zero_le _, S0, B0⟩
  case round =>
    obtain ⟨k, n, hk, rfl, hn, HS, HW⟩ := hrel
    by_cases hlt : k < L
    · have hlt' : (k : Int) < (L : Int) := by omega
      have hkt : k < ts.length := by rw [← HL.out]; exact hlt
      obtain ⟨d0, d1, v, d2, hes⟩ := H3.out k hkt
      have c0 := (HW.out.cell HBB.out).trans d0
      have c1 := (HW.out.cell HBB.out).trans d1
      have c2 := (HW.out.cell HBB.out).trans d2
      clear d0 d1 d2
      have hem := HE.out k
      obtain ⟨zn, _, zE⟩ := HZ.out k
      have NX := hide (texts_next ts k hkt)
      obtain ⟨g, hg⟩ : ∃ g, g = tabN ts k := ⟨_, rfl⟩
      rw [← hg] at c0 c1 hem zn zE NX hes
      obtain ⟨a2, cap2, rfl, hc2, hE2⟩ := hes
      obtain ⟨WA, hWA⟩ : ∃ WA, WA = wr.alloc (.cells #[.string g.name, .int .i64 g.parent, .slice a2 g.ents.length cap2] 37) := ⟨_, rfl⟩
      have BA : Hid (Below wr.heap.size wr WA) := hide (by rw [hWA]; exact (Below.refl _ _).alloc (Nat.le_refl _) _)
      have Q := hide (Blk.newAt wr wr.heap.size rfl #[.string g.name, .int .i64 g.parent, .slice a2 g.ents.length cap2] 37)
      rw [← hWA] at Q
      have hGw := hide (Nat.ne_of_gt HS.out.lt)
      have AD := hide (addS_any g.name (HS.out.below BA.out) (by omega) zn)
      have W0 := hide (HW.out.trans (BA.out.mono HW.out.size))
      have HE2 := hide hE2
      have HZ2 := hide zE
      have HWA := hide hWA.symm
      have q0 := Q.out.cell 0
      obtain ⟨M, hM⟩ : ∃ M, M = g.ents.length := ⟨_, rfl⟩
      rw [← hM] at c2 hem hc2 HWA Q q0
      have HM := hide hM
      clear hM hg hWA zn zE hkt HS BA
      go_wp2_with (simp only [HWA.out])
      refine AD.out.mono ?_
      rintro e w1 ⟨rfl, hs1, hb1⟩
      have S1 := hide hs1
      have B1 := hide (But.frame W0.out hb1 (by rw [HG.out]; exact Nat.le_refl _))
      have q2 := (hb1.blk Q.out hGw.out).cell 2
      clear hs1 hb1 AD q0 HWA Q W0
      go_wp2
      go_loopw [22] (fun p wq => ∃ j m : Nat, j ≤ M ∧ p = .int .i64 (j : Int) ∧ m ≤ 2049 * k + 1 + 2 * j ∧ Hid (SetAt wq G m (textsL (ts.take k) ++ g.name :: (g.ents.take j).flatMap entL)) ∧ Hid (Below w.heap.size w wq)) (fun p _ => M - (intOf p).toNat)
      case atStart => exact ⟨0, n + 1, Nat.zero_le _, rfl, by omega, S1, B1⟩
      case round =>
        obtain ⟨j, m, hj, rfl, hm, HS, HV⟩ := hrel
        obtain ⟨wq, hwq⟩ : ∃ x, x = wr := ⟨_, rfl⟩
        subst hwq
        by_cases hjl : j < M
        · have hjl' : (j : Int) < (M : Int) := by omega
          have hjt : j < g.ents.length := by rw [← HM.out]; exact hjl
          obtain ⟨b2, o2, ha2, hb2, hcl⟩ : ∃ b o, a2 = some ⟨b, o, none⟩ ∧ b < w.heap.size ∧ ∀ i, i < g.ents.length → w.cell? ⟨b, o + i * 4, none⟩ = some (.string (entN g.ents i).key) ∧ w.cell? ⟨b, o + i * 4 + 1, none⟩ = some (.int .i64 (entN g.ents i).kind) ∧ w.cell? ⟨b, o + i * 4 + 2, none⟩ = some (.string (entN g.ents i).text) ∧ w.cell? ⟨b, o + i * 4 + 3, none⟩ = some (.int .i64 (entN g.ents i).num) := by
            rcases HE2.out with h | h
            · rw [h] at hjt; simp at hjt
            · exact h
          subst ha2
          obtain ⟨x0, x1, x2, x3⟩ := hcl j hjt
          have bc : ∀ i, wq.cell? ⟨b2, i, none⟩ = w.cell? ⟨b2, i, none⟩ := fun i => HV.out.cell hb2
          rw [← bc] at x0 x1 x2 x3
          obtain ⟨zk, zt⟩ := HZ2.out j
          have NE := hide (ents_next g.ents j hjt)
          obtain ⟨e, he⟩ : ∃ e, e = entN g.ents j := ⟨_, rfl⟩
          rw [← he] at x0 x1 x2 x3 zk zt NE
          obtain ⟨WB, hWB⟩ : ∃ WB, WB = wq.alloc (.cells #[.string e.key, .int .i64 e.kind, .string e.text, .int .i64 e.num] 39) := ⟨_, rfl⟩
          have BB : Hid (Below wq.heap.size wq WB) := hide (by rw [hWB]; exact (Below.refl _ _).alloc (Nat.le_refl _) _)
          have QE := hide (Blk.newAt wq wq.heap.size rfl #[.string e.key, .int .i64 e.kind, .string e.text, .int .i64 e.num] 39)
          rw [← hWB] at QE
          have hGq := hide (Nat.ne_of_gt HS.out.lt)
          have AD := hide (addS_any e.key (HS.out.below BB.out) (by omega) zk)
          have W1 := hide (HV.out.trans (BB.out.mono HV.out.size))
          have HWB := hide hWB.symm
          have y0 := QE.out.cell 0
          have HZT := hide zt
          clear he bc hcl hjt hWB zk zt HS BB HV hb2
          go_wp2_with (simp only [HWB.out])
          refine AD.out.mono ?_
          rintro x w2 ⟨rfl, hs2, hb2⟩
          have S2 := hide hs2
          have B2 := hide (But.frame W1.out hb2 (by rw [HG.out]; exact Nat.le_refl _))
          have Q2 := hide (hb2.blk QE.out hGq.out)
          have z1 := Q2.out.cell 1
          have z2 := Q2.out.cell 2
          clear hs2 hb2 AD y0 HWB QE W1
          by_cases hk1 : e.kind = 1
          · have SN : Hid (SetAt w2 G (m + 1) (textsL (ts.take k) ++ g.name :: (g.ents.take (j + 1)).flatMap entL)) := hide (by
              rw [NE.out]
              unfold entL at S2 ⊢
              rw [if_pos hk1]
              have := S2.out
              simpa using this)
            have hk1' : (e.kind != 1) = false := by rw [hk1]; rfl
            clear S2 NE hk1
            go_wp2
            exact ⟨⟨j + 1, m + 1, by omega, by go_num, by omega, SN, B2⟩, by simp [intOf]; omega⟩
          · have hk1' : (e.kind != 1) = true := by simpa [bne] using hk1
            have AD2 := hide (addS_any e.text S2.out (by omega) HZT.out)
            have EN : Hid (entL e = [e.key, e.text]) := hide (by unfold entL; rw [if_neg hk1])
            clear S2
            go_wp2_with fail
            refine AD2.out.mono ?_
            rintro x w3 ⟨rfl, hs3, hb3⟩
            have B3 := hide (But.frame B2.out hb3 (by rw [HG.out]; exact Nat.le_refl _))
            have SN : Hid (SetAt w3 G (m + 1 + 1) (textsL (ts.take k) ++ g.name :: (g.ents.take (j + 1)).flatMap entL)) := hide (by
              rw [NE.out, EN.out]
              simpa using hs3)
            clear hs3 hb3 AD2 EN NE
            go_wp2
            exact ⟨⟨j + 1, m + 1 + 1, by omega, by go_num, by omega, SN, B3⟩, by simp [intOf]; omega⟩
        · obtain rfl : j = M := by omega
          have hjl' : ¬ (j : Int) < (j : Int) := by omega
          have SN : Hid (SetAt wq G m (textsL (ts.take (k + 1)))) := hide (by
            have := HS.out
            rw [List.take_of_length_le (l := g.ents) (by rw [← HM.out]; exact Nat.le_refl _)] at this
            rw [NX.out]
            exact this)
          clear HS hjl
          go_wp2
          exact ⟨⟨k + 1, m, by omega, by go_num, by omega, SN, HV⟩, by simp [intOf]; omega⟩
    · obtain rfl : k = L := by omega
      have hlt' : ¬ (k : Int) < (k : Int) := by omega
      have S1 : Hid (SetAt wr G n (textsL ts)) := hide (by have := HS.out; rwa [List.take_of_length_le (by rw [← HL.out]; exact Nat.le_refl _)] at this)
      clear HS hlt
      go_wp2
      go_ret
      exact ⟨rfl, ⟨n, S1.out⟩, by rw [HG.out]; exact HW.out⟩

set_option maxHeartbeats 1000000 in
theorem textsOf_nil (ao : Option Addr) (cap : Nat) (w : World) : Calls Tryz.prog 24 #[.slice ao 0 cap] w fun e w' => e = .returned (.map (some w.heap.size)) ∧ (∃ n, SetAt w' w.heap.size n []) ∧ Below w.heap.size w w' := by
  have hmm := @run_makeMap Tryz.prog
  have S0 := hide (SetAt.made w)
  have B0 : Hid (Below w.heap.size w (w.alloc (.map #[] 0))) := (Below.refl _ _).alloc (Nat.le_refl _) _
  go_enter Tryz.func24, Tryz.ntmps24
  go_wp2
  go_loopw [11] (fun p wr => p = .int .i64 0 ∧ wr = w.alloc (.map #[] 0)) (fun p _ => 0)
  case atStart => exact ⟨rfl, rfl⟩
  case round =>
    obtain ⟨rfl, rfl⟩ := hrel
    go_wp2
    go_ret
    exact ⟨rfl, ⟨0, S0.out⟩, B0.out⟩

theorem textsOf_any {w : World} {v : Value} {ts : List Tab} (h : TSl w v ts) (hl : ts.length ≤ 16) (hz : SzT ts) (he : ∀ k, (tabN ts k).ents.length ≤ 1024) : Calls Tryz.prog 24 #[v] w fun e w' => e = .returned (.map (some w.heap.size)) ∧ (∃ n, SetAt w' w.heap.size n (textsL ts)) ∧ Below w.heap.size w w' := by
  obtain ⟨ao, cap, rfl, h2, h3⟩ := h
  rcases h3 with rfl | ⟨b, o, rfl, hb, h3⟩
  · exact textsOf_nil ao cap w
  · exact textsOf_at b o cap ts w hl hb h2 hz he h3

end Go.Proofs.YtobmdifledegbaaGreatDoor

namespace Go.Proofs.YtobmdifledegbaaGreatDoor
open Go.RowKit Go.Maps

def poolS (l : List ByteArray) : Nat := Maps.size (setOf (H := Unit) (.agg []) (l.map litT))

theorem keyLit (l : List ByteArray) : ∀ x ∈ l.map litT, WideAt.IsKeyLit x := by
  intro x hx
  obtain ⟨s, _, rfl⟩ := List.mem_map.1 hx
  trivial

theorem addKeys_len : ∀ (xs acc : List Lit), (xs.foldl addKey acc).length ≤ acc.length + xs.length
  | [], acc => by simp
  | x :: r, acc => by
    have h := addKeys_len r (addKey acc x)
    have h2 : (addKey acc x).length ≤ acc.length + 1 := by unfold addKey; split <;> simp
    simp only [List.foldl_cons, List.length_cons]
    omega

theorem poolS_le (l : List ByteArray) : poolS l ≤ l.length := by
  unfold poolS
  rw [size_setOf _ _ (keyLit l)]
  have := addKeys_len (l.map litT) []
  simpa using this

def mostN (ts : List Tab) : Nat := ts.length + (ts.map (fun t => 2 * t.ents.length)).sum

theorem entL_len (es : List Ent) : (es.flatMap entL).length ≤ 2 * es.length := by
  induction es with
  | nil => simp
  | cons e r ih =>
    rw [List.flatMap_cons, List.length_append, List.length_cons]
    have : (entL e).length ≤ 2 := by unfold entL; split <;> simp
    omega

theorem texts_le (ts : List Tab) : (textsL ts).length ≤ mostN ts := by
  unfold mostN
  induction ts with
  | nil => simp [textsL]
  | cons t r ih =>
    unfold textsL at *
    rw [List.flatMap_cons, List.length_append, List.length_cons, List.map_cons, List.sum_cons]
    have := entL_len t.ents
    simp only [tabL, List.length_cons]
    omega

theorem most_next (ts : List Tab) (k : Nat) (hk : k < ts.length) : ((ts.take (k + 1)).map (fun t => 2 * t.ents.length)).sum = ((ts.take k).map (fun t => 2 * t.ents.length)).sum + 2 * (tabN ts k).ents.length := by
  rw [List.take_add_one, tabN_some hk]
  simp

set_option maxHeartbeats 4000000 in
theorem tooMany_at (b o cap : Nat) (ts : List Tab) (w : World) (hl : ts.length ≤ 16) (hb : b < w.heap.size) (hc : ts.length ≤ cap) (hz : SzT ts) (he : ∀ k, (tabN ts k).ents.length ≤ 1024) (h3 : ∀ i, i < ts.length → TabAt w b o i (tabN ts i)) :
    Calls Tryz.prog 22 #[.slice (some ⟨b, o, none⟩) ts.length cap] w fun e w' => e = .returned (.bool (decide (4096 < poolS (textsL ts)))) ∧ Below w.heap.size w w' := by
  have H3 := hide h3
  have HE := hide he
  have HBB := hide hb
  have TX : Hid (∀ X, Below w.heap.size w X → Calls Tryz.prog 24 #[.slice (some ⟨b, o, none⟩) ts.length cap] X fun e w' => e = .returned (.map (some X.heap.size)) ∧ (∃ n, SetAt w' X.heap.size n (textsL ts)) ∧ Below X.heap.size X w') := hide (fun X hX => textsOf_any ⟨_, cap, rfl, hc, TAt.below (.inr ⟨b, o, rfl, hb, h3⟩) hX⟩ hl hz he)
  have PO : Hid (poolS (textsL ts) ≤ mostN ts) := hide (Nat.le_trans (poolS_le _) (texts_le _))
  have MO : Hid (mostN ts = ts.length + (ts.map (fun t => 2 * t.ents.length)).sum) := hide rfl
  clear h3 hz he hb
  obtain ⟨L, hL⟩ : ∃ L, L = ts.length := ⟨_, rfl⟩
  rw [← hL] at hl hc TX ⊢
  have HL := hide hL
  clear hL
  obtain ⟨Po, hPo⟩ : ∃ Po, Po = poolS (textsL ts) := ⟨_, rfl⟩
  rw [← hPo] at PO ⊢
  have HPo := hide hPo
  clear hPo
  go_enter Tryz.func22, Tryz.ntmps22
  go_wp2
  go_loopw [3, 10] (fun x p wr => ∃ k m : Nat, k ≤ L ∧ x = .int .i64 (m : Int) ∧ p = .int .i64 (k : Int) ∧ m ≤ L + 2048 * k ∧ Hid (m = L + ((ts.take k).map (fun t => 2 * t.ents.length)).sum) ∧ Hid (Below w.heap.size w wr)) (fun _ p _ => L - (intOf p).toNat)
  case atStart => exact ⟨0, L, Nat.zero_le _, rfl, rfl, by omega, hide (by simp), Below.refl _ _⟩
  case round =>
    obtain ⟨k, m, hk, rfl, rfl, hm, HM, HW⟩ := hrel
    by_cases hlt : k < L
    · have hlt' : (k : Int) < (L : Int) := by omega
      have hkt : k < ts.length := by rw [← HL.out]; exact hlt
      obtain ⟨c0, c1, v, c2, hes⟩ := (H3.out k hkt).below HBB.out HW.out
      obtain ⟨a2, cap2, rfl, _, _⟩ := hes
      have hem := HE.out k
      have NX := hide (most_next ts k hkt)
      obtain ⟨g, hg⟩ : ∃ g, g = tabN ts k := ⟨_, rfl⟩
      rw [← hg] at c0 c1 c2 hem NX
      obtain ⟨n, hn⟩ : ∃ n, n = g.ents.length := ⟨_, rfl⟩
      rw [← hn] at c2 hem NX
      have QB := hide (HW.out.alloc HW.out.size (.cells #[.string g.name, .int .i64 g.parent, .slice a2 n cap2] 37))
      have MM : Hid (m + 2 * n = L + ((ts.take (k + 1)).map (fun t => 2 * t.ents.length)).sum) := hide (by rw [NX.out, HM.out]; omega)
      clear hg hn hkt HW HM NX
      go_wp2
      exact ⟨⟨k + 1, m + 2 * n, by omega, by go_num, by go_num, by omega, MM, QB⟩, by simp [intOf]; omega⟩
    · obtain rfl : k = L := by omega
      have hlt' : ¬ (k : Int) < (k : Int) := by omega
      have ME : Hid (m = mostN ts) := hide (by rw [HM.out, MO.out, List.take_of_length_le (l := ts) (by rw [← HL.out]; exact Nat.le_refl _), ← HL.out])
      have PM : Po ≤ m := by rw [ME.out]; exact PO.out
      clear HM MO ME PO hlt
      by_cases hq : 4096 < m
      · have hq' : (4096 : Int) < (m : Int) := by omega
        have TC := hide (TX.out wr HW.out)
        clear TX
        go_wp2_with fail
        refine TC.out.mono ?_
        rintro e w1 ⟨rfl, ⟨n, hs⟩, hb1⟩
        have HB := hide (HW.out.trans (hb1.mono HW.out.size))
        have hlen : ∀ ty, (Builtin.len_ #[59] ty #[.map (some wr.heap.size)]).run Tryz.prog w1 = .ok (.int .i64 (Po : Int)) w1 := fun ty => by
          rw [HPo.out]; exact World.ownsMap.len hs Tryz.underlying59 ty
        clear hs hb1 TC HW
        go_wp2
        go_ret
        exact ⟨congrArg (fun b => Ending.returned (Value.bool b)) (decide_eq_decide.2 (by omega)), HB.out⟩
      · have hq' : ¬ (4096 : Int) < (m : Int) := by omega
        have hp : ¬ 4096 < Po := by omega
        clear TX
        go_wp2
        go_ret
        exact ⟨rfl, HW.out⟩

def checkT (ts : List Tab) : Nat := if countsOk ts = false then 121 else if tabsE ts ts.length 0 ≠ 0 then tabsE ts ts.length 0 else if 4096 < poolS (textsL ts) then 121 else 0

theorem counts_len {ts : List Tab} (h : countsOk ts = true) : 1 ≤ ts.length ∧ ts.length ≤ 16 ∧ ∀ k, (tabN ts k).ents.length ≤ 1024 := by
  unfold countsOk at h
  rw [Bool.and_eq_true] at h
  have h2 := of_decide_eq_true h.2
  refine ⟨h2.1, h2.2, fun k => ?_⟩
  unfold tabN
  cases e : ts[k]? with
  | none => exact Nat.zero_le _
  | some t => simpa using List.all_eq_true.1 h.1 t (List.mem_of_getElem? e)

theorem tabsE_step (ts : List Tab) (n k : Nat) : tabsE ts (n + 1) k = if tabE ts k ≠ 0 then tabE ts k else tabsE ts n (k + 1) := rfl

set_option maxHeartbeats 4000000 in
theorem Check_any {w : World} {v : Value} {ts : List Tab} (h : TSl w v ts) (hl : ts.length ≤ 9223372036854775806) (hz : SzT ts) (hT : U8 w) : Calls Tryz.prog 7 #[.agg #[v]] w fun e w' => e = .returned (.int .i64 (checkT ts : Int)) ∧ Below w.heap.size w w' := by
  obtain ⟨WA, hWA⟩ : ∃ WA, WA = w.alloc (.cells #[v] 24) := ⟨_, rfl⟩
  have BA : Hid (Below w.heap.size w WA) := hide (by rw [hWA]; exact (Below.refl _ _).alloc (Nat.le_refl _) _)
  have Q : Hid (Blk WA w.heap.size #[v] 24) := hide (by rw [hWA]; exact Blk.newAt w w.heap.size rfl _ _)
  have HWA := hide hWA.symm
  have TA := hide (hT.below BA.out)
  have SA := hide (h.below BA.out)
  have MC := hide (mayCounts_any SA.out hl hz)
  have q0 := Q.out.cell 0
  have RE : Hid (checkT ts = if countsOk ts = false then 121 else if tabsE ts ts.length 0 ≠ 0 then tabsE ts ts.length 0 else if 4096 < poolS (textsL ts) then 121 else 0) := hide rfl
  obtain ⟨R, hR⟩ : ∃ R, R = checkT ts := ⟨_, rfl⟩
  rw [← hR] at RE ⊢
  obtain ⟨ao, cap, rfl, hcap, hat⟩ := h
  have HAT := hide hat
  clear hWA hR hT hat
  cases hco : countsOk ts with
  | false =>
    rw [hco] at MC
    have EE : Hid (R = 121) := hide (by rw [RE.out, if_pos hco])
    clear RE hco
    go_enter Tryz.func7, Tryz.ntmps7
    go_wp2_with (simp only [HWA.out])
    refine MC.out.mono ?_
    rintro e w1 ⟨rfl, hb1⟩
    have HB := hide (BA.out.trans (hb1.mono BA.out.size))
    clear hb1 MC
    go_wp2
    go_ret
    exact ⟨by rw [EE.out]; rfl, HB.out⟩
  | true =>
    rw [hco] at MC
    rw [if_neg (by rw [hco]; decide)] at RE
    obtain ⟨h1, h16, he⟩ := counts_len hco
    have CT : Hid (∀ k, k < ts.length → ∀ X, Below WA.heap.size WA X → Calls Tryz.prog 21 #[.slice ao ts.length cap, .int .i64 (k : Int)] X fun e w' => e = .returned (.int .i64 (tabE ts k : Int)) ∧ Below X.heap.size X w') := hide (fun k hk X hX => checkTable_any k (SA.out.below hX) hk h16 hz (he k) (TA.out.below hX))
    have TM : Hid (∀ X, Below WA.heap.size WA X → Calls Tryz.prog 22 #[.slice ao ts.length cap] X fun e w' => e = .returned (.bool (decide (4096 < poolS (textsL ts)))) ∧ Below X.heap.size X w') := hide (fun X hX => by
      obtain ⟨ao', cap', e1, h2, h3⟩ := SA.out.below hX
      simp only [Value.slice.injEq] at e1
      obtain ⟨rfl, _, rfl⟩ := e1
      rcases h3 with h0 | ⟨b, o, rfl, hb, h3⟩
      · rw [h0] at h1; simp at h1
      · exact tooMany_at b o _ ts X h16 hb h2 hz he h3)
    obtain ⟨L, hL⟩ : ∃ L, L = ts.length := ⟨_, rfl⟩
    rw [← hL] at h1 h16 hl hcap CT TM RE Q MC HWA q0
    rw [← hL]
    have KP : Hid (∀ X, Below WA.heap.size WA X → Blk X w.heap.size #[.slice ao L cap] 24) := hide (fun X hX => Q.out.below hX Q.out.lt)
    have HL := hide hL
    clear hco he hL hz
    generalize hTS : tabsE ts L 0 = Te at *
    have HTS := hide hTS
    clear hTS
    obtain ⟨tm, htm⟩ : ∃ tm, tm = decide (4096 < poolS (textsL ts)) := ⟨_, rfl⟩
    rw [← htm] at TM
    have RE2 : Hid (Te = 0 → R = if tm = true then 121 else 0) := hide (fun h0 => by rw [RE.out, if_neg (fun h => h h0), htm]; by_cases h : 4096 < poolS (textsL ts) <;> simp [h])
    have RE1 : Hid (Te ≠ 0 → R = Te) := hide (fun h0 => by rw [RE.out, if_pos h0])
    clear RE htm
    go_enter Tryz.func7, Tryz.ntmps7
    go_wp2_with (simp only [HWA.out])
    refine MC.out.mono ?_
    rintro e w1 ⟨rfl, hb1⟩
    have p0 := (KP.out w1 hb1).cell 0
    have B1 := hide hb1
    clear hb1 MC
    go_wp2
    go_loopw [12] (fun p wr => ∃ k : Nat, k ≤ L ∧ p = .int .i64 (k : Int) ∧ Hid (tabsE ts (L - k) k = Te) ∧ Hid (Below WA.heap.size WA wr)) (fun p _ => L - (intOf p).toNat)
    case atStart => exact ⟨0, Nat.zero_le _, rfl, hide HTS.out, B1⟩
    case round =>
      obtain ⟨k, hk, rfl, HF, HW⟩ := hrel
      have r0 := (KP.out wr HW.out).cell 0
      by_cases hlt : k < L
      · have hlt' : (k : Int) < (L : Int) := by omega
        have CK := hide (CT.out k hlt wr HW.out)
        have ST : Hid (Te = if tabE ts k ≠ 0 then tabE ts k else tabsE ts (L - (k + 1)) (k + 1)) := hide (by
          rw [← HF.out, show L - k = (L - (k + 1)) + 1 by omega, tabsE_step])
        generalize tabE ts k = te at *
        clear HF
        by_cases h0 : te = 0
        · subst h0
          have EE : Hid (tabsE ts (L - (k + 1)) (k + 1) = Te) := hide (by rw [ST.out, if_neg (fun h => h rfl)])
          clear ST
          go_wp2_with fail
          refine CK.out.mono ?_
          rintro e w2 ⟨rfl, hb2⟩
          have HB2 := hide (HW.out.trans (hb2.mono HW.out.size))
          clear hb2 CK
          go_wp2
          exact ⟨⟨k + 1, by omega, by go_num, EE, HB2⟩, by simp [intOf]; omega⟩
        · have EE : Hid (R = te) := hide (by
            have : Te = te := by rw [ST.out, if_pos h0]
            rw [RE1.out (by rw [this]; exact h0), this])
          have h0' : ((te : Int) == 0) = false := beq_eq_false_iff_ne.2 (by omega)
          have h1' : ((te : Int) != 0) = true := by rw [bne, h0']; rfl
          clear ST
          go_wp2_with fail
          refine CK.out.mono ?_
          rintro e w2 ⟨rfl, hb2⟩
          have HB2 := hide (BA.out.trans ((HW.out.trans (hb2.mono HW.out.size)).mono BA.out.size))
          clear hb2 CK
          go_wp2
          go_ret
          exact ⟨by rw [EE.out]; rfl, HB2.out⟩
      · obtain rfl : k = L := by omega
        have hlt' : ¬ (k : Int) < (k : Int) := by omega
        have T0 : Te = 0 := by rw [← HF.out, Nat.sub_self]; rfl
        have EE : Hid (R = if tm = true then 121 else 0) := hide (RE2.out T0)
        have TC := hide (TM.out wr HW.out)
        clear HF hlt T0
        go_wp2_with fail
        refine TC.out.mono ?_
        rintro e w2 ⟨rfl, hb2⟩
        have HB2 := hide (BA.out.trans ((HW.out.trans (hb2.mono HW.out.size)).mono BA.out.size))
        clear hb2 TC
        cases tm
        · go_wp2
          go_ret
          exact ⟨by rw [EE.out]; rfl, HB2.out⟩
        · go_wp2
          go_ret
          exact ⟨by rw [EE.out]; rfl, HB2.out⟩

end Go.Proofs.YtobmdifledegbaaGreatDoor
