/-
  What cursor's text and Text do.
  Lists of bytes in blocks of their own, out of a conversion or an append: an append to one; what a conversion makes.
  Texts and lists of bytes: conversions, there and back.
  What cursor's Put8, Put16, Put32 and PutText do.
  What is read, laid again, is the bytes that were read.
  The calls whose answers the document fixes.
  CursorOnce.
  What the rows' list of package variables gives, and a world that holds them.
-/
import Derived.Test.YthknmkebdlnahaaDoorCB2
import Derived.ArgAppend
import Derived.Lib.ConvBytes
import Derived.Laws.BytesArg
import Derived.Deep.DeepCutAuto
import Derived.Test.YthknmkebdlnahaaDoorRows
import Derived.Lib.LaidU8
import Derived.Deep.DeepHandedRow
namespace Go.Proofs.YthknmkebdlnahaaDoor
open Go.RowKit Go.Shelf

def OffT (D : Nat) : Prop := 0 ≠ D ∧ 1 ≠ D

theorem lt_of_cell {w : World} {g i : Nat} {v : Value} (h : w.cell? ⟨g, i, none⟩ = some v) : g < w.heap.size := by
  by_cases hg : g < w.heap.size
  · exact hg
  · unfold World.cell? at h
    rw [Array.getElem?_eq_none (by show w.heap.size ≤ g; omega)] at h
    simp at h

theorem U8.lt {w : World} (h : U8 w) : 0 < w.heap.size ∧ 1 < w.heap.size := ⟨lt_of_cell (h.1 0 (by decide)), lt_of_cell (h.2 0 (by decide)).1⟩
theorem U8.off {w : World} (h : U8 w) {D : Nat} (hD : w.heap.size ≤ D) : OffT D := by
  have := h.lt
  exact ⟨by omega, by omega⟩
theorem U8.but {D : Nat} {w w' : World} (h : U8 w) (hb : But D w w') (hD : OffT D) : U8 w' := by
  obtain ⟨l1, l2⟩ := h.lt
  refine ⟨fun c hc => ?_, fun i hi => ⟨?_, ?_⟩⟩
  · rw [hb.cell l1 hD.1]; exact h.1 c hc
  · rw [hb.cell l2 hD.2]; exact (h.2 i hi).1
  · rw [hb.cell l2 hD.2]; exact (h.2 i hi).2

def txtF (s : ByteArray) (at_ : Nat) (most : Int) : Nat :=
  if s.size < at_ + 2 then 110 else if most < (beA (bys s) at_ 2 : Int) then 112 else if s.size < at_ + 2 + beA (bys s) at_ 2 then 110
  else if (runesL (bys (s.extract (at_ + 2) (at_ + 2 + beA (bys s) at_ 2)))).isSome = false then 111 else 0
def txtS (s : ByteArray) (at_ : Nat) : ByteArray := s.extract (at_ + 2) (at_ + 2 + beA (bys s) at_ 2)

section
variable {w : World} {D : Nat} {s : ByteArray} {at_ e : Nat}

set_option maxHeartbeats 1000000 in
theorem text_no (most : Int) (f : Nat) (hs : s.size ≤ 140737488355328) (ha : at_ ≤ s.size) (h : Cur w D s at_ 0) (hT : U8 w) (hD : OffT D) (hf : txtF s at_ most = f) (h0 : f ≠ 0) :
    Calls Tryd.prog 43 #[.pointer (some ⟨D, 0, none⟩), .int .i64 most] w fun x w' => Pan f x ∧ (∃ k, Cur w' D s k 0) ∧ But D w w' := by
  unfold txtF at hf
  by_cases h1 : s.size < at_ + 2
  · rw [if_pos h1] at hf
    subst hf
    have HN := hide (number2_no (by omega) ha h h1)
    have HC := hide h
    clear h hT hD
    go_enter Tryd.func43, Tryd.ntmps43
    go_wp2_with fail
    refine HN.out.mono ?_
    rintro x w1 ⟨rfl, hb⟩
    have HB := hide hb
    clear hb
    go_wp2
    exact ⟨rfl, rfl, ⟨at_, HC.out.below HB.out⟩, But.of_below HB.out⟩
  rw [if_neg h1] at hf
  have HN := hide (number2_ok (by omega) h (by omega))
  have hNl := beA_lt (bys s) at_ 2
  have HT := hide hT
  clear hT h
  have HVV : Hid (∀ X, U8 X → Calls Tryd.prog 18 #[.string (s.extract (at_ + 2) (at_ + 2 + beA (bys s) at_ 2))] X fun x w' => x = .returned (.bool (runesL (bys (s.extract (at_ + 2) (at_ + 2 + beA (bys s) at_ 2)))).isSome) ∧ Below X.heap.size X w') := fun X hX => Valid_any _ X (by rw [ByteArray.size_extract]; omega) hX
  generalize beA (bys s) at_ 2 = N at *
  by_cases h2 : most < (N : Int)
  · rw [if_pos h2] at hf
    subst hf
    clear HVV
    go_enter Tryd.func43, Tryd.ntmps43
    go_wp2_with fail
    refine HN.out.mono ?_
    rintro x w1 ⟨rfl, hc, hb⟩
    have HC := hide hc
    have HB := hide hb
    clear hc hb
    go_wp2
    exact ⟨rfl, rfl, ⟨_, HC.out⟩, HB.out⟩
  rw [if_neg h2] at hf
  by_cases h3 : s.size < at_ + 2 + N
  · rw [if_pos h3] at hf
    subst hf
    clear HVV
    go_enter Tryd.func43, Tryd.ntmps43
    go_wp2_with fail
    refine HN.out.mono ?_
    rintro x w1 ⟨rfl, hc, hb⟩
    have HK := hide (take_no N (by omega) (by omega) hc h3)
    have HC := hide hc
    have HB := hide hb
    clear hc hb
    go_wp2_with fail
    refine HK.out.mono ?_
    rintro x w2 ⟨rfl, hb2⟩
    have HB2 := hide hb2
    clear hb2 HK
    go_wp2
    exact ⟨rfl, rfl, ⟨_, HC.out.below HB2.out⟩, HB.out.trans (But.of_below HB2.out)⟩
  rw [if_neg h3] at hf
  by_cases h4 : (runesL (bys (s.extract (at_ + 2) (at_ + 2 + N)))).isSome = false
  · rw [if_pos h4] at hf
    subst hf
    rw [h4] at HVV
    go_enter Tryd.func43, Tryd.ntmps43
    go_wp2_with fail
    refine HN.out.mono ?_
    rintro x w1 ⟨rfl, hc, hb⟩
    have HK := hide (take_ok N (by omega) hc (by omega))
    have HB := hide hb
    clear hc hb
    go_wp2_with fail
    refine HK.out.mono ?_
    rintro x w2 ⟨rfl, hc2, hb2⟩
    have HB2 := hide (HB.out.trans hb2)
    have HC2 := hide hc2
    clear hb2 HK HB hc2
    go_wp2_with fail
    refine (HVV.out _ (HT.out.but HB2.out hD)).mono ?_
    rintro x w3 ⟨rfl, hb3⟩
    have HB3 := hide hb3
    clear hb3
    go_wp2
    exact ⟨rfl, rfl, ⟨_, HC2.out.below HB3.out⟩, HB2.out.trans (But.of_below HB3.out)⟩
  · rw [if_neg h4] at hf
    exact absurd hf.symm h0

set_option maxHeartbeats 1000000 in
theorem text_ok (most : Int) (hs : s.size ≤ 140737488355328) (h : Cur w D s at_ 0) (hT : U8 w) (hD : OffT D) (hf : txtF s at_ most = 0) :
    Calls Tryd.prog 43 #[.pointer (some ⟨D, 0, none⟩), .int .i64 most] w fun x w' => x = .returned (.string (txtS s at_)) ∧ Cur w' D s (at_ + 2 + beA (bys s) at_ 2) 0 ∧ But D w w' := by
  unfold txtF at hf
  unfold txtS
  by_cases h1 : s.size < at_ + 2
  · rw [if_pos h1] at hf; omega
  rw [if_neg h1] at hf
  have HN := hide (number2_ok (by omega) h (by omega))
  have hNl := beA_lt (bys s) at_ 2
  have HT := hide hT
  clear hT h
  have HVV : Hid (∀ X, U8 X → Calls Tryd.prog 18 #[.string (s.extract (at_ + 2) (at_ + 2 + beA (bys s) at_ 2))] X fun x w' => x = .returned (.bool (runesL (bys (s.extract (at_ + 2) (at_ + 2 + beA (bys s) at_ 2)))).isSome) ∧ Below X.heap.size X w') := fun X hX => Valid_any _ X (by rw [ByteArray.size_extract]; omega) hX
  generalize beA (bys s) at_ 2 = N at *
  by_cases h2 : most < (N : Int)
  · rw [if_pos h2] at hf; omega
  rw [if_neg h2] at hf
  by_cases h3 : s.size < at_ + 2 + N
  · rw [if_pos h3] at hf; omega
  rw [if_neg h3] at hf
  cases h4 : (runesL (bys (s.extract (at_ + 2) (at_ + 2 + N)))).isSome with
  | false => rw [if_pos h4] at hf; omega
  | true =>
    rw [h4] at HVV
    clear hf
    go_enter Tryd.func43, Tryd.ntmps43
    go_wp2_with fail
    refine HN.out.mono ?_
    rintro x w1 ⟨rfl, hc, hb⟩
    have HK := hide (take_ok N (by omega) hc (by omega))
    have HB := hide hb
    clear hc hb
    go_wp2_with fail
    refine HK.out.mono ?_
    rintro x w2 ⟨rfl, hc2, hb2⟩
    have HB2 := hide (HB.out.trans hb2)
    have HC2 := hide hc2
    clear hb2 HK HB hc2
    go_wp2_with fail
    refine (HVV.out _ (HT.out.but HB2.out hD)).mono ?_
    rintro x w3 ⟨rfl, hb3⟩
    have HB3 := hide hb3
    clear hb3
    go_wp2
    go_ret
    exact ⟨rfl, HC2.out.below HB3.out, HB2.out.trans (But.of_below HB3.out)⟩


set_option maxHeartbeats 1000000 in
theorem cloT_ok {X : World} (a m b : Nat) (most : Int) (hs : s.size ≤ 140737488355328) (h : Cur X D s at_ 0) (hT : U8 X) (hD : OffT D) (hf : txtF s at_ most = 0) (ha : Blk X a #[.pointer (some ⟨D, 0, none⟩)] 39) (hm : Blk X m #[.int .i64 most] 3) (hb : Blk X b #[.string ⟨#[]⟩] 9) (hbD : b ≠ D) (hw : But D w X) (hwb : w.heap.size ≤ b) :
    Calls Tryd.prog 42 #[.pointer (some ⟨a, 0, none⟩), .pointer (some ⟨m, 0, none⟩), .pointer (some ⟨b, 0, none⟩)] X fun x X' => x = .returned (.tuple #[]) ∧ Cur X' D s (at_ + 2 + beA (bys s) at_ 2) 0 ∧ Blk X' b #[.string (txtS s at_)] 9 ∧ But D w X' := by
  have HN := hide (text_ok most hs h hT hD hf)
  have ca := ha.cell 0
  have cm := hm.cell 0
  have HBB := hide hb
  have HW := hide hw
  clear h ha hb hw hm hf hT hD
  go_enter Tryd.func42, Tryd.ntmps42
  go_wp2_with fail
  refine HN.out.mono ?_
  rintro x w1 ⟨rfl, hc, ht⟩
  have q := ht.blk HBB.out hbD
  have q0 := q.cell 0
  have f0 := q.free 0
  have Q1 := hide (q.one (.string (txtS s at_)))
  have HC := hide hc
  have HT := hide ht
  clear hc ht q
  go_wp2
  simp [bodyPost, results, Tryd.results42, go_sem]
  exact ⟨Blk.other HC.out (a := ⟨b, 0, none⟩) hbD _, Q1.out, (HW.out.trans HT.out).setNew hwb _⟩

set_option maxHeartbeats 1000000 in
theorem cloT_no {X : World} (a m b : Nat) (most : Int) (f : Nat) (hs : s.size ≤ 140737488355328) (ha' : at_ ≤ s.size) (h : Cur X D s at_ 0) (hT : U8 X) (hD : OffT D) (hf : txtF s at_ most = f) (h0 : f ≠ 0) (ha : Blk X a #[.pointer (some ⟨D, 0, none⟩)] 39) (hm : Blk X m #[.int .i64 most] 3) :
    Calls Tryd.prog 42 #[.pointer (some ⟨a, 0, none⟩), .pointer (some ⟨m, 0, none⟩), .pointer (some ⟨b, 0, none⟩)] X fun x X' => Pan f x ∧ (∃ k, Cur X' D s k 0) ∧ But D X X' := by
  have HN := hide (text_no most f hs ha' h hT hD hf h0)
  have ca := ha.cell 0
  have cm := hm.cell 0
  clear h ha hm ha' hf hT hD
  go_enter Tryd.func42, Tryd.ntmps42
  go_wp2_with fail
  refine HN.out.mono ?_
  rintro x w1 ⟨rfl, ⟨k, hc⟩, hb⟩
  have HB := hide hb
  have HC := hide hc
  clear hb hc
  go_wp2
  exact ⟨rfl, rfl, ⟨k, HC.out⟩, HB.out⟩

def tgtV (s : ByteArray) (at_ e : Nat) (most : Int) : ByteArray := if e = 0 ∧ txtF s at_ most = 0 then txtS s at_ else ⟨#[]⟩
def tgtA (s : ByteArray) (at_ e : Nat) (most : Int) : Nat := if e = 0 ∧ txtF s at_ most = 0 then at_ + 2 + beA (bys s) at_ 2 else at_
def tgtE (s : ByteArray) (at_ e : Nat) (most : Int) : Nat := if e = 0 then txtF s at_ most else e

set_option maxHeartbeats 1000000 in
theorem Text_any (most : Int) (hs : s.size ≤ 140737488355328) (ha : at_ ≤ s.size) (h : Cur w D s at_ e) (hT : U8 w) (hD : OffT D) : Calls Tryd.prog 29 #[.pointer (some ⟨D, 0, none⟩), .int .i64 most] w fun x w' => x = .returned (.string (tgtV s at_ e most)) ∧ Cur w' D s (tgtA s at_ e most) (tgtE s at_ e most) ∧ But D w w' := by
  have hmf : ∀ (fn : Fn) (first cap : Array Value) (w : World), (Instr.makeFunc fn first cap).run Tryd.prog w = .ok (.func fn first cap) w := fun _ _ _ _ => rfl
  have hDl := h.lt
  have HB1 : Hid (Below w.heap.size w ((w.alloc (.cells #[.pointer (some ⟨D, 0, none⟩)] 39)).alloc (.cells #[.int .i64 most] 3))) := ((Below.refl _ _).alloc (Nat.le_refl _) _).alloc ((Below.refl _ _).alloc (Nat.le_refl _) _).size _
  have HB2 : Hid (Below w.heap.size w (((w.alloc (.cells #[.pointer (some ⟨D, 0, none⟩)] 39)).alloc (.cells #[.int .i64 most] 3)).alloc (.cells #[.string ⟨#[]⟩] 9))) := HB1.out.alloc HB1.out.size _
  have HC := hide (h.below HB2.out)
  have HT := hide (hT.below HB2.out)
  have K1 : Hid (Blk (((w.alloc (.cells #[.pointer (some ⟨D, 0, none⟩)] 39)).alloc (.cells #[.int .i64 most] 3)).alloc (.cells #[.string ⟨#[]⟩] 9)) w.heap.size #[.pointer (some ⟨D, 0, none⟩)] 39) := ((Blk.new _ _ _).alloc _).alloc _
  have K2 : Hid (Blk (((w.alloc (.cells #[.pointer (some ⟨D, 0, none⟩)] 39)).alloc (.cells #[.int .i64 most] 3)).alloc (.cells #[.string ⟨#[]⟩] 9)) (w.heap.size + 1) #[.int .i64 most] 3) := (Blk.newAt _ _ (by simp) _ _).alloc _
  have K3 : Hid (Blk (((w.alloc (.cells #[.pointer (some ⟨D, 0, none⟩)] 39)).alloc (.cells #[.int .i64 most] 3)).alloc (.cells #[.string ⟨#[]⟩] 9)) (w.heap.size + 2) #[.string ⟨#[]⟩] 9) := Blk.newAt _ _ (by simp) _ _
  have hz1 : w.heap.size < (((w.alloc (.cells #[.pointer (some ⟨D, 0, none⟩)] 39)).alloc (.cells #[.int .i64 most] 3)).alloc (.cells #[.string ⟨#[]⟩] 9)).heap.size := K1.out.lt
  have hz2 : w.heap.size + 1 < (((w.alloc (.cells #[.pointer (some ⟨D, 0, none⟩)] 39)).alloc (.cells #[.int .i64 most] 3)).alloc (.cells #[.string ⟨#[]⟩] 9)).heap.size := K2.out.lt
  have hz3 : w.heap.size + 2 < (((w.alloc (.cells #[.pointer (some ⟨D, 0, none⟩)] 39)).alloc (.cells #[.int .i64 most] 3)).alloc (.cells #[.string ⟨#[]⟩] 9)).heap.size := K3.out.lt
  have hent : ∀ args w, (callFunc 42 args).run Tryd.prog w = .ok (.enter 42 args) w := enters_of Tryd.func42 (by kernel_rfl) rfl
  clear h hT
  by_cases h0 : e = 0
  · subst h0
    by_cases hn : txtF s at_ most = 0
    · have e1 : tgtV s at_ 0 most = txtS s at_ := by unfold tgtV; rw [if_pos ⟨rfl, hn⟩]
      have e2 : tgtA s at_ 0 most = at_ + 2 + beA (bys s) at_ 2 := by unfold tgtA; rw [if_pos ⟨rfl, hn⟩]
      have e3 : tgtE s at_ 0 most = 0 := by unfold tgtE; rw [if_pos rfl, hn]
      rw [e1, e2, e3]
      have HA := hide (attempt_ok 42 #[.pointer (some ⟨w.heap.size, 0, none⟩), .pointer (some ⟨w.heap.size + 1, 0, none⟩), .pointer (some ⟨w.heap.size + 2, 0, none⟩)] (fun _ X' => Cur X' D s (at_ + 2 + beA (bys s) at_ 2) 0 ∧ Blk X' (w.heap.size + 2) #[.string (txtS s at_)] 9 ∧ But D w X') HC.out hent
        (fun X hX => cloT_ok w.heap.size (w.heap.size + 1) (w.heap.size + 2) most hs (HC.out.below hX) (HT.out.below hX) hD hn (K1.out.below hX hz1) (K2.out.below hX hz2) (K3.out.below hX hz3) (by omega) ((But.of_below HB2.out).trans (But.of_below hX)) (by omega)))
      clear e1 e2 e3 hent HC K1 K2 K3 hn HT hD
      go_enter Tryd.func29, Tryd.ntmps29
      go_wp2_with fail
      refine HA.out.mono ?_
      rintro x w1 ⟨rfl, X, hX, hc, hq, hb⟩
      have q0 := hq.cell 0
      have f0 := hq.free 0
      have Q1 := hide (hq.one (.string (txtS s at_)))
      have r0 := Q1.out.cell 0
      have HCC := hide hc
      have HBB := hide hb
      clear hc hq hb hX HA
      go_wp2
      simp [bodyPost, results, Tryd.results29, go_sem, r0]
      exact ⟨Blk.other HCC.out (a := ⟨w.heap.size + 2, 0, none⟩) (by show w.heap.size + 2 ≠ D; omega) _, HBB.out.setNew (by omega) _⟩
    · have e1 : tgtV s at_ 0 most = ⟨#[]⟩ := by unfold tgtV; rw [if_neg (by omega)]
      have e2 : tgtA s at_ 0 most = at_ := by unfold tgtA; rw [if_neg (by omega)]
      have e3 : tgtE s at_ 0 most = txtF s at_ most := by unfold tgtE; rw [if_pos rfl]
      rw [e1, e2, e3]
      have HA := hide (attempt_no 42 #[.pointer (some ⟨w.heap.size, 0, none⟩), .pointer (some ⟨w.heap.size + 1, 0, none⟩), .pointer (some ⟨w.heap.size + 2, 0, none⟩)] (txtF s at_ most) HC.out hent
        (fun X hX => cloT_no w.heap.size (w.heap.size + 1) (w.heap.size + 2) most _ hs ha (HC.out.below hX) (HT.out.below hX) hD rfl hn (K1.out.below hX hz1) (K2.out.below hX hz2)))
      generalize txtF s at_ most = f at *
      clear e1 e2 e3 hent HC K1 K2 hn HT hD
      go_enter Tryd.func29, Tryd.ntmps29
      go_wp2_with fail
      refine HA.out.mono ?_
      rintro x w1 ⟨rfl, hc, hb⟩
      have hq := hb.blk K3.out (by omega)
      have q0 := hq.cell 0
      have f0 := hq.free 0
      have Q1 := hide (hq.one (.string ⟨#[]⟩))
      have r0 := Q1.out.cell 0
      have HCC := hide hc
      have HBB := hide ((But.of_below HB2.out).trans hb)
      clear hc hq hb HA K3
      go_wp2
      simp [bodyPost, results, Tryd.results29, go_sem, r0]
      exact ⟨Blk.other HCC.out (a := ⟨w.heap.size + 2, 0, none⟩) (by show w.heap.size + 2 ≠ D; omega) _, HBB.out.setNew (by omega) _⟩
  · have e1 : tgtV s at_ e most = ⟨#[]⟩ := by unfold tgtV; rw [if_neg (by omega)]
    have e2 : tgtA s at_ e most = at_ := by unfold tgtA; rw [if_neg (by omega)]
    have e3 : tgtE s at_ e most = e := by unfold tgtE; rw [if_neg h0]
    rw [e1, e2, e3]
    have HA := hide (attempt_idle (.func (.func 42) #[] #[.pointer (some ⟨w.heap.size, 0, none⟩), .pointer (some ⟨w.heap.size + 1, 0, none⟩), .pointer (some ⟨w.heap.size + 2, 0, none⟩)]) HC.out h0)
    clear e1 e2 e3 hent K1 K2 HT hD
    go_enter Tryd.func29, Tryd.ntmps29
    go_wp2_with fail
    refine HA.out.mono ?_
    rintro x w1 ⟨rfl, hb⟩
    have hq := K3.out.below hb hz3
    have q0 := hq.cell 0
    have f0 := hq.free 0
    have Q1 := hide (hq.one (.string ⟨#[]⟩))
    have r0 := Q1.out.cell 0
    have HCC := hide (HC.out.below hb)
    have HBB := hide ((But.of_below (D := D) HB2.out).trans (But.of_below hb))
    clear hq hb HA K3 HC
    go_wp2
    simp [bodyPost, results, Tryd.results29, go_sem, r0]
    exact ⟨Blk.other HCC.out (a := ⟨w.heap.size + 2, 0, none⟩) (by show w.heap.size + 2 ≠ D; omega) _, HBB.out.setNew (by omega) _⟩

end

end Go.Proofs.YthknmkebdlnahaaDoor

namespace Go.Proofs.YthknmkebdlnahaaDoor
open Go.RowKit

end Go.Proofs.YthknmkebdlnahaaDoor

namespace Go.Proofs.YthknmkebdlnahaaDoor
open Go.RowKit

theorem strB_of (l : List UInt8) : strOfNums ((l.map UInt8.toNat).map fun (x : Nat) => (x : Int)) = ⟨l.toArray⟩ := by
  apply ByteArray.ext
  apply Array.toList_inj.1
  rw [strOfNums_data, List.map_map, List.map_map]
  show _ = l
  conv => rhs; rw [← List.map_id l]
  apply List.map_congr_left
  intro x _
  simp

theorem convB_at {X : World} {g o cap : Nat} {l : List UInt8} (h : ∀ i, i < l.length → X.cell? ⟨g, o + i, none⟩ = some (.int .u8 ((byt l i : Nat) : Int))) : (convert 34 9 (.slice (some ⟨g, o, none⟩) l.length cap)).run Tryd.prog X = .ok (.string ⟨l.toArray⟩) X := by
  have kc := run_convert_bytes_arg (P := Tryd.prog) X 34 5 Tryd.underlying34 Tryd.underlying5 g o l.length cap ((l.map UInt8.toNat).map fun (x : Nat) => (x : Int)) (by rw [List.length_map, List.length_map]) (fun i hi => by
    rw [h i hi]
    unfold byt
    simp [List.getD, hi]) 9 Tryd.underlying9
  rw [strB_of] at kc
  exact kc

end Go.Proofs.YthknmkebdlnahaaDoor

namespace Go.Proofs.YthknmkebdlnahaaDoor
open Go.RowKit

def bN (n : Int) (k : Nat) : UInt8 := UInt8.ofNat ((n / 2 ^ (8 * k)) % 256).toNat
theorem bN_nat (n : Int) (k : Nat) : (((bN n k).toNat : Nat) : Int) = (n / 2 ^ (8 * k)) % 256 := by
  unfold bN
  rw [UInt8.toNat_ofNat']
  have h1 := Int.emod_nonneg (n / 2 ^ (8 * k)) (show (256 : Int) ≠ 0 by decide)
  have h2 := Int.emod_lt_of_pos (n / 2 ^ (8 * k)) (show (0 : Int) < 256 by decide)
  omega

set_option maxHeartbeats 1000000 in
theorem Put8_any (n : Int) (w : World) : Calls Tryd.prog 10 #[.int .i64 n] w fun e w' => e = .returned (.string ⟨#[bN n 0]⟩) ∧ Below w.heap.size w w' := by
  have hb : n % 256 = (((bN n 0).toNat : Nat) : Int) := by rw [bN_nat]; simp
  have HCV : Hid ((convert 34 9 (.slice (some ⟨w.heap.size, 0, none⟩) 1 1)).run Tryd.prog (w.alloc (.cells #[.int .u8 (n % 256)] 5)) = .ok (.string ⟨#[bN n 0]⟩) (w.alloc (.cells #[.int .u8 (n % 256)] 5))) :=
    convB_at (l := [bN n 0]) (fun i hi => by
      obtain rfl : i = 0 := by simpa using hi
      have := (Blk.new w #[.int .u8 (n % 256)] 5).cell 0
      rw [Nat.add_zero, this, hb]
      rfl)
  have hcv := HCV.out
  clear HCV hb
  go_enter Tryd.func10, Tryd.ntmps10
  go_wp2
  go_ret
  exact ⟨rfl, (Below.refl _ _).alloc (Nat.le_refl _) _⟩

theorem bN_shift (n : Int) (j k : Nat) : bN (n / 2 ^ (8 * j)) k = bN n (j + k) := by
  unfold bN
  rw [Int.ediv_ediv_of_nonneg (by exact Int.le_of_lt (Int.pow_pos (by decide))), ← Int.pow_add, ← Nat.mul_add]

def put2 (n : Int) : ByteArray := ⟨#[bN n 1, bN n 0]⟩
def put4 (n : Int) : ByteArray := ⟨#[bN n 3, bN n 2, bN n 1, bN n 0]⟩

theorem cat2 (n : Int) : (⟨#[bN (n / 256) 0]⟩ : ByteArray) ++ ⟨#[bN n 0]⟩ = put2 n := by
  have := bN_shift n 1 0
  rw [show (2 : Int) ^ (8 * 1) = 256 by decide] at this
  rw [this]
  rfl
theorem cat4 (n : Int) : put2 (n / 65536) ++ put2 n = put4 n := by
  have h0 := bN_shift n 2 0
  have h1 := bN_shift n 2 1
  rw [show (2 : Int) ^ (8 * 2) = 65536 by decide] at h0 h1
  unfold put2 put4
  rw [h0, h1]
  rfl

set_option maxHeartbeats 1000000 in
theorem Put16_any (n : Int) (w : World) : Calls Tryd.prog 12 #[.int .i64 n] w fun e w' => e = .returned (.string (put2 n)) ∧ Below w.heap.size w w' := by
  have HP : Hid (∀ m X, Calls Tryd.prog 10 #[.int .i64 m] X fun e w' => e = .returned (.string ⟨#[bN m 0]⟩) ∧ Below X.heap.size X w') := fun m X => Put8_any m X
  have HC := hide (cat2 n)
  have hz : ¬ 9223372036854775807 < (⟨#[bN (n / 256) 0]⟩ : ByteArray).size + (⟨#[bN n 0]⟩ : ByteArray).size := by show ¬ _ < 1 + 1; omega
  go_enter Tryd.func12, Tryd.ntmps12
  go_wp2_with fail
  refine (HP.out _ _).mono ?_
  generalize (⟨#[bN (n / 256) 0]⟩ : ByteArray) = A at *
  rintro e w1 ⟨rfl, hb⟩
  have HB := hide hb
  clear hb
  go_wp2_with fail
  refine (HP.out _ _).mono ?_
  clear HP
  generalize (⟨#[bN n 0]⟩ : ByteArray) = B at *
  rintro e w2 ⟨rfl, hb⟩
  have HB2 := hide (HB.out.trans (hb.mono HB.out.size))
  clear hb HB
  have hc := HC.out
  go_wp2
  go_ret
  first | exact ⟨rfl, HB2.out⟩ | exact ⟨by rw [← hc]; rfl, HB2.out⟩

set_option maxHeartbeats 1000000 in
theorem Put32_any (n : Int) (w : World) : Calls Tryd.prog 13 #[.int .i64 n] w fun e w' => e = .returned (.string (put4 n)) ∧ Below w.heap.size w w' := by
  have HP : Hid (∀ m X, Calls Tryd.prog 12 #[.int .i64 m] X fun e w' => e = .returned (.string (put2 m)) ∧ Below X.heap.size X w') := fun m X => Put16_any m X
  have HC := hide (cat4 n)
  have hz : ¬ 9223372036854775807 < (put2 (n / 65536)).size + (put2 n).size := by show ¬ _ < 2 + 2; omega
  go_enter Tryd.func13, Tryd.ntmps13
  go_wp2_with fail
  refine (HP.out _ _).mono ?_
  generalize put2 (n / 65536) = A at *
  rintro e w1 ⟨rfl, hb⟩
  have HB := hide hb
  clear hb
  go_wp2_with fail
  refine (HP.out _ _).mono ?_
  clear HP
  generalize put2 n = B at *
  rintro e w2 ⟨rfl, hb⟩
  have HB2 := hide (HB.out.trans (hb.mono HB.out.size))
  clear hb HB
  have hc := HC.out
  go_wp2
  go_ret
  first | exact ⟨rfl, HB2.out⟩ | exact ⟨by rw [← hc]; rfl, HB2.out⟩

def ptxE (s : ByteArray) : Nat := if 1024 < s.size then 112 else if (runesL (bys s)).isSome = false then 111 else 0
def ptxV (s : ByteArray) : ByteArray := if ptxE s = 0 then put2 (s.size : Int) ++ s else ⟨#[]⟩

set_option maxHeartbeats 1000000 in
theorem PutText_any (s : ByteArray) (w : World) (hT : U8 w) : Calls Tryd.prog 8 #[.string s] w fun e w' => e = .returned (.tuple #[.string (ptxV s), .int .i64 (ptxE s : Int)]) ∧ Below w.heap.size w w' := by
  by_cases h1 : 1024 < s.size
  · have e1 : ptxE s = 112 := by unfold ptxE; rw [if_pos h1]
    have e2 : ptxV s = ⟨#[]⟩ := by unfold ptxV; rw [e1, if_neg (by decide)]
    rw [e1, e2]
    have h1' : 1024 < (s.size : Int) := by omega
    clear hT e1 e2
    go_enter Tryd.func8, Tryd.ntmps8
    go_wp2
    go_ret2
    exact ⟨rfl, Below.refl _ _⟩
  have h1' : ¬ 1024 < (s.size : Int) := by omega
  have HV := hide (Valid_any s w (by omega) hT)
  cases h2 : (runesL (bys s)).isSome with
  | false =>
    have e1 : ptxE s = 111 := by unfold ptxE; rw [if_neg h1, if_pos h2]
    have e2 : ptxV s = ⟨#[]⟩ := by unfold ptxV; rw [e1, if_neg (by decide)]
    rw [e1, e2]
    rw [h2] at HV
    clear hT e1 e2
    go_enter Tryd.func8, Tryd.ntmps8
    go_wp2_with fail
    refine HV.out.mono ?_
    rintro e w1 ⟨rfl, hb⟩
    go_wp2
    go_ret2
    exact ⟨rfl, hb⟩
  | true =>
    have e1 : ptxE s = 0 := by unfold ptxE; rw [if_neg h1, if_neg (by rw [h2]; decide)]
    have e2 : ptxV s = put2 (s.size : Int) ++ s := by unfold ptxV; rw [e1, if_pos rfl]
    rw [e1, e2]
    rw [h2] at HV
    have HP : Hid (∀ X, Calls Tryd.prog 12 #[.int .i64 (s.size : Int)] X fun e w' => e = .returned (.string (put2 (s.size : Int))) ∧ Below X.heap.size X w') := fun X => Put16_any _ X
    have hz : ¬ 9223372036854775807 < (put2 (s.size : Int)).size + s.size := by show ¬ _ < 2 + s.size; omega
    generalize put2 (s.size : Int) = A at *
    clear hT e1 e2
    go_enter Tryd.func8, Tryd.ntmps8
    go_wp2_with fail
    refine HV.out.mono ?_
    rintro e w1 ⟨rfl, hb⟩
    have HB := hide hb
    clear hb HV
    go_wp2_with fail
    refine (HP.out _).mono ?_
    rintro e w2 ⟨rfl, hb⟩
    have HB2 := hide (HB.out.trans (hb.mono HB.out.size))
    clear hb HB HP
    go_wp2
    go_ret2
    exact ⟨rfl, HB2.out⟩

end Go.Proofs.YthknmkebdlnahaaDoor

namespace Go.Proofs.YthknmkebdlnahaaDoor
open Go.RowKit

theorem mkByB (t : ByteArray) : (⟨(bys t).toArray⟩ : ByteArray) = t := by
  unfold bys
  cases t
  simp
theorem bys_injB {f g : ByteArray} (h : bys f = bys g) : f = g := (mkByB f).symm.trans ((congrArg (fun l : List UInt8 => (⟨l.toArray⟩ : ByteArray)) h).trans (mkByB g))
theorem bys_cutB (t : ByteArray) (i j : Nat) : bys (t.extract i (i + j)) = ((bys t).drop i).take j := by
  unfold bys
  rw [ByteArray.data_extract, Array.toList_extract]
  simp only [List.extract, Nat.add_sub_cancel_left]

theorem take_next (l : List UInt8) (p k : Nat) (h : p < l.length) : (l.drop p).take (k + 1) = UInt8.ofNat (byt l p) :: (l.drop (p + 1)).take k := by
  rw [List.drop_eq_getElem_cons h, List.take_succ_cons]
  congr 1
  unfold byt
  simp [h]

theorem bN_low (a b : Nat) (hb : b < 256) : bN ((a * 256 + b : Nat) : Int) 0 = UInt8.ofNat b := by
  unfold bN
  congr 1
  rw [show (2 : Int) ^ (8 * 0) = 1 by decide, Int.ediv_one]
  omega
theorem bN_up (a b k : Nat) (hb : b < 256) : bN ((a * 256 + b : Nat) : Int) (k + 1) = bN (a : Int) k := by
  have h := bN_shift ((a * 256 + b : Nat) : Int) 1 k
  rw [Nat.add_comm 1 k] at h
  rw [← h, show (2 : Int) ^ (8 * 1) = 256 by decide]
  congr 1
  omega

theorem beA_one (l : List UInt8) (p : Nat) : beA l p 1 = 0 * 256 + byt l p := rfl
theorem beA_two (l : List UInt8) (p : Nat) : beA l p 2 = beA l p 1 * 256 + byt l (p + 1) := rfl
theorem beA_three (l : List UInt8) (p : Nat) : beA l p 3 = beA l p 2 * 256 + byt l (p + 2) := rfl
theorem beA_four (l : List UInt8) (p : Nat) : beA l p 4 = beA l p 3 * 256 + byt l (p + 3) := rfl

theorem again1 (s : ByteArray) (p : Nat) (h : p + 1 ≤ s.size) : s.extract p (p + 1) = ⟨#[bN (beA (bys s) p 1 : Int) 0]⟩ := by
  apply bys_injB
  have hl := bys_len s
  rw [bys_cutB, take_next _ _ _ (by omega), List.take_zero, beA_one, bN_low _ _ (byt_lt _ _)]
  rfl
theorem again2 (s : ByteArray) (p : Nat) (h : p + 2 ≤ s.size) : s.extract p (p + 2) = put2 (beA (bys s) p 2 : Int) := by
  apply bys_injB
  have hl := bys_len s
  rw [bys_cutB, take_next _ _ _ (by omega), take_next _ _ _ (by omega), List.take_zero]
  unfold put2
  rw [beA_two, bN_low _ _ (byt_lt _ _), bN_up _ _ _ (byt_lt _ _), beA_one, bN_low _ _ (byt_lt _ _)]
  rfl
theorem again4 (s : ByteArray) (p : Nat) (h : p + 4 ≤ s.size) : s.extract p (p + 4) = put4 (beA (bys s) p 4 : Int) := by
  apply bys_injB
  have hl := bys_len s
  rw [bys_cutB, take_next _ _ _ (by omega), take_next _ _ _ (by omega), take_next _ _ _ (by omega), take_next _ _ _ (by omega), List.take_zero]
  unfold put4
  rw [beA_four, bN_low _ _ (byt_lt _ _), bN_up _ _ _ (byt_lt _ _), bN_up _ _ _ (byt_lt _ _), bN_up _ _ _ (byt_lt _ _), beA_three, bN_low _ _ (byt_lt _ _), bN_up _ _ _ (byt_lt _ _), bN_up _ _ _ (byt_lt _ _), beA_two, bN_low _ _ (byt_lt _ _), bN_up _ _ _ (byt_lt _ _), beA_one, bN_low _ _ (byt_lt _ _)]
  rfl

theorem txtF_ok (s : ByteArray) (p : Nat) (m : Int) (h : txtF s p m = 0) : p + 2 + beA (bys s) p 2 ≤ s.size ∧ (beA (bys s) p 2 : Int) ≤ m ∧ (runesL (bys (txtS s p))).isSome = true := by
  unfold txtF at h
  split at h
  · omega
  split at h
  · omega
  split at h
  · omega
  split at h
  · omega
  · rename_i h1
    refine ⟨by omega, by omega, ?_⟩
    unfold txtS
    cases hb : (runesL (bys (s.extract (p + 2) (p + 2 + beA (bys s) p 2)))).isSome with
    | true => rfl
    | false => exact absurd hb h1

theorem txtS_size (s : ByteArray) (p : Nat) (h : p + 2 + beA (bys s) p 2 ≤ s.size) : (txtS s p).size = beA (bys s) p 2 := by
  unfold txtS
  rw [ByteArray.size_extract]
  omega

theorem againT (s : ByteArray) (p : Nat) (m : Int) (hm : m ≤ 1024) (h : txtF s p m = 0) : ptxE (txtS s p) = 0 ∧ s.extract p (p + 2 + beA (bys s) p 2) = ptxV (txtS s p) := by
  obtain ⟨h1, h2, h3⟩ := txtF_ok s p m h
  have hz := txtS_size s p h1
  have he : ptxE (txtS s p) = 0 := by
    unfold ptxE
    rw [if_neg (by omega), if_neg (by rw [h3]; decide)]
  refine ⟨he, ?_⟩
  unfold ptxV
  rw [if_pos he, hz, ← again2 s p (by omega)]
  apply bys_injB
  rw [bys_append]
  unfold txtS
  rw [Nat.add_assoc, bys_cutB, bys_cutB, ← Nat.add_assoc, bys_cutB, List.take_add, List.drop_drop]

def Nxt (s : ByteArray) (p e p' e' : Nat) (out : ByteArray) : Prop := (e' ≠ 0 ∧ p' = p ∧ (e = 0 ∨ e = e')) ∨ (e' = 0 ∧ e = 0 ∧ p ≤ p' ∧ p' ≤ s.size ∧ s.extract p p' = out)

theorem nxt_get (s : ByteArray) (p e k : Nat) (out : ByteArray) (h : p + k ≤ s.size → s.extract p (p + k) = out) : Nxt s p e (getA s p e k) (getE s p e k) out := by
  unfold Nxt getA getE
  by_cases he : e = 0
  · by_cases hk : p + k ≤ s.size
    · right
      rw [if_pos he, if_pos hk, if_pos ⟨he, hk⟩]
      exact ⟨rfl, he, by omega, hk, h hk⟩
    · left
      rw [if_pos he, if_neg hk, if_neg (by omega)]
      exact ⟨by decide, rfl, .inl he⟩
  · left
    rw [if_neg he, if_neg (by omega)]
    exact ⟨he, rfl, .inr rfl⟩

theorem getV_val (s : ByteArray) (p e k : Nat) (he : e = 0) (hk : p + k ≤ s.size) : getV s p e k = beA (bys s) p k := by
  unfold getV
  rw [if_pos ⟨he, hk⟩]

theorem getA_le (s : ByteArray) (p e k : Nat) (h : p ≤ s.size) : getA s p e k ≤ s.size := by
  unfold getA
  split <;> omega

theorem nxt1 (s : ByteArray) (p e : Nat) : Nxt s p e (getA s p e 1) (getE s p e 1) ⟨#[bN (getV s p e 1 : Int) 0]⟩ := by
  by_cases he : e = 0 ∧ p + 1 ≤ s.size
  · rw [getV_val s p e 1 he.1 he.2]
    exact nxt_get s p e 1 _ (fun h => again1 s p h)
  · unfold Nxt getA getE
    left
    rw [if_neg he]
    split
    · rw [if_neg (by omega)]; exact ⟨by decide, rfl, .inl (by assumption)⟩
    · exact ⟨by assumption, rfl, .inr rfl⟩
theorem nxt2 (s : ByteArray) (p e : Nat) : Nxt s p e (getA s p e 2) (getE s p e 2) (put2 (getV s p e 2 : Int)) := by
  by_cases he : e = 0 ∧ p + 2 ≤ s.size
  · rw [getV_val s p e 2 he.1 he.2]
    exact nxt_get s p e 2 _ (fun h => again2 s p h)
  · unfold Nxt getA getE
    left
    rw [if_neg he]
    split
    · rw [if_neg (by omega)]; exact ⟨by decide, rfl, .inl (by assumption)⟩
    · exact ⟨by assumption, rfl, .inr rfl⟩
theorem nxt4 (s : ByteArray) (p e : Nat) : Nxt s p e (getA s p e 4) (getE s p e 4) (put4 (getV s p e 4 : Int)) := by
  by_cases he : e = 0 ∧ p + 4 ≤ s.size
  · rw [getV_val s p e 4 he.1 he.2]
    exact nxt_get s p e 4 _ (fun h => again4 s p h)
  · unfold Nxt getA getE
    left
    rw [if_neg he]
    split
    · rw [if_neg (by omega)]; exact ⟨by decide, rfl, .inl (by assumption)⟩
    · exact ⟨by assumption, rfl, .inr rfl⟩

theorem nxtT (s : ByteArray) (p e : Nat) (m : Int) (hm : m ≤ 1024) : ptxE (tgtV s p e m) = 0 ∧ Nxt s p e (tgtA s p e m) (tgtE s p e m) (ptxV (tgtV s p e m)) := by
  by_cases he : e = 0 ∧ txtF s p m = 0
  · obtain ⟨a1, a2⟩ := againT s p m hm he.2
    obtain ⟨h1, _, _⟩ := txtF_ok s p m he.2
    have e1 : tgtV s p e m = txtS s p := by unfold tgtV; rw [if_pos he]
    rw [e1]
    refine ⟨a1, .inr ⟨?_, he.1, ?_, ?_, ?_⟩⟩
    · unfold tgtE; rw [if_pos he.1]; exact he.2
    all_goals (unfold tgtA; rw [if_pos he])
    · omega
    · exact h1
    · exact a2
  · have e1 : tgtV s p e m = ⟨#[]⟩ := by unfold tgtV; rw [if_neg he]
    rw [e1]
    refine ⟨by decide, .inl ?_⟩
    unfold tgtA tgtE
    rw [if_neg he]
    split
    · rename_i h0
      exact ⟨fun h => he ⟨h0, h⟩, rfl, .inl h0⟩
    · exact ⟨by assumption, rfl, .inr rfl⟩

theorem tgtA_le (s : ByteArray) (p e : Nat) (m : Int) (h : p ≤ s.size) : tgtA s p e m ≤ s.size := by
  unfold tgtA
  split
  · rename_i he
    exact (txtF_ok s p m he.2).1
  · exact h

theorem nxt0 (s : ByteArray) (p e : Nat) (h : p ≤ s.size) : Nxt s p e p e ⟨#[]⟩ := by
  by_cases he : e = 0
  · right
    refine ⟨he, he, Nat.le_refl _, h, ?_⟩
    apply bys_injB
    have := bys_cutB s p 0
    rw [Nat.add_zero] at this
    rw [this, List.take_zero]
    rfl
  · exact .inl ⟨he, rfl, .inr rfl⟩

end Go.Proofs.YthknmkebdlnahaaDoor

namespace Go.Proofs.YthknmkebdlnahaaDoor
open Go.RowKit

def T3 : ByteArray := ⟨#[1, 2, 3]⟩
def Tab_ : ByteArray := ⟨#[97, 98]⟩
def Teu : ByteArray := ⟨#[226, 130, 172]⟩
def T80 : ByteArray := ⟨#[128]⟩
def Ta : ByteArray := ⟨#[97]⟩
theorem fx1 : getV T3 0 0 2 = 258 ∧ getA T3 0 0 2 = 2 ∧ getE T3 0 0 2 = 0 := by decide
theorem fx2 : getV T3 2 0 2 = 0 ∧ getA T3 2 0 2 = 2 ∧ getE T3 2 0 2 = 110 := by decide
theorem fx3 : fltP 2 110 = 2 := by decide
theorem fx4 : ptxE Tab_ = 0 := by decide
theorem fx5 : ptxV Tab_ = ⟨#[0, 2, 97, 98]⟩ := by unfold ptxV; rw [if_pos fx4]; rfl
theorem fx6 : put4 (-1) = ⟨#[255, 255, 255, 255]⟩ := by rfl
theorem fx7 : runeAt Teu 0 = 3 := by decide
theorem fx8 : runesI (bys T80) = -1 := by decide
theorem fx9 : (runesL (bys Ta)).isSome = true := by decide

set_option maxRecDepth 100000 in
set_option maxHeartbeats 2000000 in
theorem fixed_any (w : World) (hT : U8 w) : Calls Tryd.prog 14 #[] w fun e w' => e = .returned (.bool true) ∧ Below w.heap.size w w' := by
  have HT := hide hT
  have hoff := hT.off (Nat.le_refl _)
  clear hT hoff
  have HN := hide (New_any T3 w)
  go_enter Tryd.func14, Tryd.ntmps14
  go_wp2_with fail
  refine HN.out.mono ?_
  rintro e w1 ⟨rfl, hc, hb⟩
  have HB1 := hide hb
  obtain ⟨v1, v2, v3⟩ := fx1
  have HG := hide (Get16_any (by decide) (by decide) hc)
  rw [v1, v2, v3] at HG
  clear hc hb HN v1 v2 v3
  generalize hD : w.heap.size = D at *
  go_wp2_with fail
  refine HG.out.mono ?_
  rintro e w2 ⟨rfl, hc, hb⟩
  have HB2 := hide (But.frame (by rw [hD]; exact HB1.out) hb (by omega))
  obtain ⟨v1, v2, v3⟩ := fx2
  have HG2 := hide (Get16_any (by decide) (by decide) hc)
  rw [v1, v2, v3] at HG2
  clear hc hb HG v1 v2 v3 HB1
  go_wp2_with fail
  refine HG2.out.mono ?_
  rintro e w3 ⟨rfl, hc, hb⟩
  have HB3 := hide (But.frame HB2.out hb (by omega))
  have HA := hide (At_any hc)
  have HF := hide (Fault_any hc)
  rw [fx3] at HF
  clear hc hb HG2 HB2
  go_wp2_with fail
  refine HA.out.mono ?_
  rintro e w4 ⟨rfl, rfl⟩
  clear HA
  go_wp2_with fail
  refine HF.out.mono ?_
  rintro e w4 ⟨rfl, hb⟩
  have HB4 := hide (HB3.out.trans (hb.mono HB3.out.size))
  have HP := hide (PutText_any Tab_ w4 (HT.out.below HB4.out))
  rw [fx4, fx5] at HP
  clear hb HF HB3
  go_wp2_with fail
  refine HP.out.mono ?_
  rintro e w5 ⟨rfl, hb⟩
  have HB5 := hide (HB4.out.trans (hb.mono HB4.out.size))
  have HP := hide (Put32_any (-1) w5)
  rw [fx6] at HP
  clear hb HB4
  go_wp2_with fail
  refine HP.out.mono ?_
  rintro e w6 ⟨rfl, hb⟩
  have HB6 := hide (HB5.out.trans (hb.mono HB5.out.size))
  have HP := hide (Rune_any Teu 0 w6 (HT.out.below HB6.out))
  rw [fx7] at HP
  clear hb HB5
  go_wp2_with fail
  refine HP.out.mono ?_
  rintro e w7 ⟨rfl, hb⟩
  have HB7 := hide (HB6.out.trans (hb.mono HB6.out.size))
  have HP := hide (Runes_any T80 w7 (by decide) (HT.out.below HB7.out))
  rw [fx8] at HP
  clear hb HB6
  go_wp2_with fail
  refine HP.out.mono ?_
  rintro e w8 ⟨rfl, hb⟩
  have HB8 := hide (HB7.out.trans (hb.mono HB7.out.size))
  have HP := hide (Valid_any Ta w8 (by decide) (HT.out.below HB8.out))
  rw [fx9] at HP
  clear hb HB7
  go_wp2_with fail
  refine HP.out.mono ?_
  rintro e w9 ⟨rfl, hb⟩
  have HB9 := hide (HB8.out.trans (hb.mono HB8.out.size))
  clear hb HB8 HP HT
  go_wp2
  go_ret
  exact ⟨rfl, by rw [hD]; first | exact HB9.out | (have h := HB9.out; rw [hD] at h; exact h)⟩

end Go.Proofs.YthknmkebdlnahaaDoor

namespace Go.Proofs.YthknmkebdlnahaaDoor
open Go.RowKit

theorem min_1024 (a n : Int) (hn : n = min 1024 a) : ∀ (w : World) (ts : Array TypeId) (t : TypeId), (Builtin.min_ ts t #[.int .i64 1024, .int .i64 a]).run Tryd.prog w = .ok (.int .i64 n) w := by
  intro w ts t
  rw [run_min_int2, hn]
  congr 2
  split <;> omega

def CutO (w : World) (D : Nat) (s : ByteArray) (q e : Nat) (v : Value) (wx : World) : Prop := ∃ out q' e', v = .string out ∧ Cur wx D s q' e' ∧ Below w.heap.size w wx ∧ q' ≤ s.size ∧ Nxt s q e q' e' out

set_option maxRecDepth 100000 in
set_option maxHeartbeats 4000000 in
theorem once_row (w : World) (hT : U8 w) (s : ByteArray) (hs : s.size ≤ 140737488355328) (v : Value) (os : List (Int × Int)) (hq : OSl w v os) (hol : os.length * 16 ≤ 140737488351232) : Calls Tryd.prog 6 #[.string s, v] w fun e w' => e = .returned (.bool true) ∧ Below w.heap.size w w' := by
  have HT := hide hT
  have hoff := hide (hT.off (Nat.le_refl _))
  have HN := hide (New_any s w)
  obtain ⟨ao, cap, rfl, hoc, hoa⟩ := hq
  have HOA := hide hoa
  obtain ⟨L, hL⟩ : ∃ L, L = os.length := ⟨_, rfl⟩
  rw [← hL] at hoc hol ⊢
  have HL := hide hL
  clear hoa hL hT
  obtain ⟨D, hD⟩ : ∃ D, w.heap.size = D := ⟨_, rfl⟩
  rw [hD] at hoff HN
  have hDw : w.heap.size ≤ D := by omega
  have HDw := hide hD
  clear hD
  go_enter Tryd.func6, Tryd.ntmps6
  go_wp2_with fail
  refine HN.out.mono ?_
  rintro e w1 ⟨rfl, hc, hb⟩
  have HC1 := hide hc
  have HB1 : Hid (Below w.heap.size w w1) := hide (by rw [HDw.out]; exact hb)
  clear hc hb HN
  go_wp2
  go_loopw [6] (fun x wr => ∃ i q e : Nat, i ≤ L ∧ x = .int .i64 (i : Int) ∧ Hid (Cur wr D s q e) ∧ Hid (Below w.heap.size w wr) ∧ q ≤ s.size) (fun x _ => L - (intOf x).toNat)
  case atStart => exact ⟨0, 0, 0, Nat.zero_le _, rfl, HC1, HB1, Nat.zero_le _⟩
  case round =>
    obtain ⟨i, q, e, hi, rfl, HC, HB, hqs⟩ := hrel
    clear HC1 HB1
    by_cases hlt : i < L
    · have hlt' : (i : Int) < (L : Int) := by omega
      obtain ⟨b, o, hao, hbl, hcl⟩ : ∃ b o, ao = some ⟨b, o, none⟩ ∧ b < w.heap.size ∧ ∀ i, i < os.length → w.cell? ⟨b, o + i * 2, none⟩ = some (.int .i64 (nthO os i).1) ∧ w.cell? ⟨b, o + i * 2 + 1, none⟩ = some (.int .i64 (nthO os i).2) := by
        rcases HOA.out with rfl | h
        · have := HL.out; simp at this; omega
        · exact h
      subst hao
      have hcc := hcl i (by rw [← HL.out]; exact hlt)
      generalize nthO os i = pr at *
      obtain ⟨A1, A2⟩ := pr
      dsimp only at hcc
      have CW : Hid (∀ X, Below w.heap.size w X → X.cell? ⟨b, o + i * 2, none⟩ = some (.int .i64 A1) ∧ X.cell? ⟨b, o + i * 2 + 1, none⟩ = some (.int .i64 A2)) := fun X hX => ⟨(hX.cell hbl).trans hcc.1, (hX.cell hbl).trans hcc.2⟩
      have HA := hide (At_any HC.out)
      have HF := hide (Fault_any HC.out)
      clear hcl hcc hbl
      go_wp2_with fail
      refine HA.out.mono ?_
      rintro x w2 ⟨rfl, rfl⟩
      clear HA
      go_wp2_with fail
      refine HF.out.mono ?_
      rintro x w3 ⟨rfl, hb⟩
      have HC3 := hide (HC.out.below hb)
      have HB3 := hide (HB.out.trans (hb.mono HB.out.size))
      clear HC HB HF hb
      obtain ⟨k1, k2⟩ := CW.out w3 HB3.out
      go_upto_region 9 with (fail)
      iterate 8 (first | go_step | go_values | go_upon | go_simp)
      go_cut [10, 11, 12] (fun vo v11 v12 wx => Hid (CutO w D s q e vo wx))
      case first =>
        by_cases g0 : A1 = 0
        · have HG := hide (Get8_any (by omega) hqs HC3.out)
          have HPU : Hid (∀ X, Calls Tryd.prog 10 #[.int .i64 (getV s q e 1 : Int)] X fun x w' => x = .returned (.string ⟨#[bN (getV s q e 1 : Int) 0]⟩) ∧ Below X.heap.size X w') := fun X => Put8_any _ X
          have HNX := hide (nxt1 s q e)
          have hle := getA_le s q e 1 hqs
          generalize (⟨#[bN (getV s q e 1 : Int) 0]⟩ : ByteArray) = OUT at *
          generalize getA s q e 1 = q2 at *
          generalize getE s q e 1 = e2 at *
          go_wp2_with fail
          refine HG.out.mono ?_
          rintro x w4 ⟨rfl, hc, hb⟩
          have HC4 := hide hc
          have HB4 := hide (But.frame HB3.out hb hDw)
          clear hc hb HG HC3 HB3
          go_wp2_with fail
          refine (HPU.out _).mono ?_
          rintro x w5 ⟨rfl, hb⟩
          have HC5 := hide (HC4.out.below hb)
          have HB5 := hide (HB4.out.trans (hb.mono HB4.out.size))
          clear hb HPU HC4 HB4
          go_wp2
          go_meet
          case rel => exact ⟨_, _, _, rfl, HC5.out, HB5.out, hle, HNX.out⟩
        by_cases g1 : A1 = 1
        · have HG := hide (Get16_any (by omega) hqs HC3.out)
          have HPU : Hid (∀ X, Calls Tryd.prog 12 #[.int .i64 (getV s q e 2 : Int)] X fun x w' => x = .returned (.string (put2 (getV s q e 2 : Int))) ∧ Below X.heap.size X w') := fun X => Put16_any _ X
          have HNX := hide (nxt2 s q e)
          have hle := getA_le s q e 2 hqs
          generalize (put2 (getV s q e 2 : Int)) = OUT at *
          generalize getA s q e 2 = q2 at *
          generalize getE s q e 2 = e2 at *
          go_wp2_with fail
          refine HG.out.mono ?_
          rintro x w4 ⟨rfl, hc, hb⟩
          have HC4 := hide hc
          have HB4 := hide (But.frame HB3.out hb hDw)
          clear hc hb HG HC3 HB3
          go_wp2_with fail
          refine (HPU.out _).mono ?_
          rintro x w5 ⟨rfl, hb⟩
          have HC5 := hide (HC4.out.below hb)
          have HB5 := hide (HB4.out.trans (hb.mono HB4.out.size))
          clear hb HPU HC4 HB4
          go_wp2
          go_meet
          case rel => exact ⟨_, _, _, rfl, HC5.out, HB5.out, hle, HNX.out⟩
        by_cases g2 : A1 = 2
        · have HG := hide (Get32_any (by omega) hqs HC3.out)
          have HPU : Hid (∀ X, Calls Tryd.prog 13 #[.int .i64 (getV s q e 4 : Int)] X fun x w' => x = .returned (.string (put4 (getV s q e 4 : Int))) ∧ Below X.heap.size X w') := fun X => Put32_any _ X
          have HNX := hide (nxt4 s q e)
          have hle := getA_le s q e 4 hqs
          generalize (put4 (getV s q e 4 : Int)) = OUT at *
          generalize getA s q e 4 = q2 at *
          generalize getE s q e 4 = e2 at *
          go_wp2_with fail
          refine HG.out.mono ?_
          rintro x w4 ⟨rfl, hc, hb⟩
          have HC4 := hide hc
          have HB4 := hide (But.frame HB3.out hb hDw)
          clear hc hb HG HC3 HB3
          go_wp2_with fail
          refine (HPU.out _).mono ?_
          rintro x w5 ⟨rfl, hb⟩
          have HC5 := hide (HC4.out.below hb)
          have HB5 := hide (HB4.out.trans (hb.mono HB4.out.size))
          clear hb HPU HC4 HB4
          go_wp2
          go_meet
          case rel => exact ⟨_, _, _, rfl, HC5.out, HB5.out, hle, HNX.out⟩
        by_cases g3 : A1 = 3
        · obtain ⟨M, hM⟩ : ∃ M, M = min 1024 A2 := ⟨_, rfl⟩
          have hmn := min_1024 A2 M hM
          have HG := hide (Text_any M hs hqs HC3.out (HT.out.below HB3.out) hoff.out)
          obtain ⟨x1, x2⟩ := nxtT s q e M (by omega)
          have HPU : Hid (∀ X, U8 X → Calls Tryd.prog 8 #[.string (tgtV s q e M)] X fun x w' => x = .returned (.tuple #[.string (ptxV (tgtV s q e M)), .int .i64 (ptxE (tgtV s q e M) : Int)]) ∧ Below X.heap.size X w') := fun X hX => PutText_any _ X hX
          rw [x1] at HPU
          have HNX := hide x2
          have hle := tgtA_le s q e M hqs
          clear x1 x2 hM
          generalize ptxV (tgtV s q e M) = OUT at *
          generalize tgtV s q e M = TT at *
          generalize tgtA s q e M = q2 at *
          generalize tgtE s q e M = e2 at *
          go_wp2_with fail
          refine HG.out.mono ?_
          rintro x w4 ⟨rfl, hc, hb⟩
          have HC4 := hide hc
          have HB4 := hide (But.frame HB3.out hb hDw)
          clear hc hb HG HC3 HB3
          go_wp2_with fail
          refine (HPU.out _ (HT.out.below HB4.out)).mono ?_
          rintro x w5 ⟨rfl, hb⟩
          have HC5 := hide (HC4.out.below hb)
          have HB5 := hide (HB4.out.trans (hb.mono HB4.out.size))
          clear hb HPU HC4 HB4
          go_wp2
          go_meet
          case rel => exact ⟨_, _, _, rfl, HC5.out, HB5.out, hle, HNX.out⟩
        · have HNX := hide (nxt0 s q e hqs)
          go_wp2
          go_meet
          case rel => exact ⟨_, _, _, rfl, HC3.out, HB3.out, hqs, HNX.out⟩
      case rest =>
        clear HC3 HB3 CW k1 k2
        obtain ⟨out, q2, e2, rfl, hc, hb, hq2, hnx⟩ := hcut.out
        have HC4 := hide hc
        have HB4 := hide hb
        have HNX := hide hnx
        clear hc hb hnx hcut
        rcases HNX.out with ⟨n1, rfl, rfl | rfl⟩ | ⟨rfl, rfl, n3, n4, n5⟩
        · have HF4 := hide (Fault_any HC4.out)
          have hfl : fltP q2 e2 = q2 := by unfold fltP; rw [if_neg n1]
          rw [hfl] at HF4
          have n1' : ¬ (e2 : Int) = 0 := by omega
          clear hfl HNX
          go_wp2_with fail
          refine HF4.out.mono ?_
          rintro x w5 ⟨rfl, hb⟩
          have HC5 := hide (HC4.out.below hb)
          have HB5 := hide (HB4.out.trans (hb.mono HB4.out.size))
          have HA5 := hide (At_any HC5.out)
          clear hb HF4 HC4 HB4
          go_wp2_with fail
          refine HA5.out.mono ?_
          rintro x w6 ⟨rfl, rfl⟩
          clear HA5
          go_wp2
          exact ⟨⟨i + 1, q2, e2, by omega, by go_num, HC5, HB5, hqs⟩, by simp [intOf]; omega⟩
        · have HF4 := hide (Fault_any HC4.out)
          have hfl : fltP q2 e = q2 := by unfold fltP; rw [if_neg n1]
          rw [hfl] at HF4
          have n1' : ¬ (e : Int) = 0 := by omega
          clear hfl HNX
          go_wp2_with fail
          refine HF4.out.mono ?_
          rintro x w5 ⟨rfl, hb⟩
          have HC5 := hide (HC4.out.below hb)
          have HB5 := hide (HB4.out.trans (hb.mono HB4.out.size))
          have HA5 := hide (At_any HC5.out)
          clear hb HF4 HC4 HB4
          go_wp2_with fail
          refine HA5.out.mono ?_
          rintro x w6 ⟨rfl, rfl⟩
          clear HA5
          go_wp2
          exact ⟨⟨i + 1, q2, e, by omega, by go_num, HC5, HB5, hqs⟩, by simp [intOf]; omega⟩
        · have HF4 := hide (Fault_any HC4.out)
          have n3' : ¬ (q2 : Int) < (q : Int) := by omega
          have n3'' : (q : Int) ≤ (q2 : Int) := by omega
          have n4' : ¬ (s.size : Int) < (q2 : Int) := by omega
          have n4'' : (q2 : Int) ≤ (s.size : Int) := by omega
          clear HNX
          go_wp2_with fail
          refine HF4.out.mono ?_
          rintro x w5 ⟨rfl, hb⟩
          have HC5 := hide (HC4.out.below hb)
          have HB5 := hide (HB4.out.trans (hb.mono HB4.out.size))
          have HA5 := hide (At_any HC5.out)
          clear hb HF4 HC4 HB4
          go_wp2_with fail
          refine HA5.out.mono ?_
          rintro x w6 ⟨rfl, rfl⟩
          clear HA5
          go_wp2
          exact ⟨⟨i + 1, q2, 0, by omega, by go_num, HC5, HB5, hq2⟩, by simp [intOf]; omega⟩
    · have hlt' : ¬ (i : Int) < (L : Int) := by omega
      have HF := hide (fixed_any wr (HT.out.below HB.out))
      go_wp2_with fail
      refine HF.out.mono ?_
      rintro x w9 ⟨rfl, hb⟩
      have HB9 := hide (HB.out.trans (hb.mono HB.out.size))
      clear hb HF HB
      go_wp2
      go_ret
      exact ⟨rfl, HB9.out⟩

end Go.Proofs.YthknmkebdlnahaaDoor

namespace Go.Proofs.YthknmkebdlnahaaDoor
open Go.RowKit

theorem u8extra : U8Extra Tryd.prog Tryd.lays260_ren := ⟨by kernel_rfl, by kernel_rfl, by kernel_rfl, by kernel_rfl, by kernel_rfl, by kernel_rfl, by kernel_rfl⟩
theorem laid_first : (Rows.laid_unicode_utf8_first : DataW Unit) = Lib.firstData := by kernel_rfl
theorem laid_accept : (Rows.laid_unicode_utf8_acceptRanges : DataW Unit) = Lib.acceptData := by kernel_rfl

theorem table {W : World} (h : laidMetH Tryd.prog [("unicode/utf8.acceptRanges", Rows.laid_unicode_utf8_acceptRanges), ("unicode/utf8.first", Rows.laid_unicode_utf8_first)] W) : U8 W := by
  have h' : laidMet Tryd.prog [("unicode/utf8.acceptRanges", Rows.laid_unicode_utf8_acceptRanges), ("unicode/utf8.first", Rows.laid_unicode_utf8_first)] W := h
  have h3 := Lib.laidMet.reads h' (n := "unicode/utf8.first") (d := Rows.laid_unicode_utf8_first) (by simp)
  have h4 := Lib.laidMet.reads h' (n := "unicode/utf8.acceptRanges") (d := Rows.laid_unicode_utf8_acceptRanges) (by simp)
  rw [laid_first] at h3
  rw [laid_accept] at h4
  exact utf8Tabs_of_reads Tryd.lays260 u8extra h3 h4

def tabVals : DataW Unit → Array Value
  | .agg l => (l.flatMap fun
      | .lit (.int k z) => [Value.int k z]
      | .agg l2 => l2.map fun
        | .lit (.int k z) => Value.int k z
        | _ => .int .u8 0
      | _ => []).toArray
  | _ => #[]

def putVals (d : DataW Unit) : Obj → Obj
  | .cells _ t frozen => .cells (tabVals d) t frozen
  | o => o

noncomputable def laidWorld (os : Os) : World :=
  { World.holding Tryd.prog os ⟨#[], #[], []⟩ with
    heap := ((World.holding Tryd.prog os ⟨#[], #[], []⟩).heap.modify 1 (putVals Rows.laid_unicode_utf8_acceptRanges)).modify 0 (putVals Rows.laid_unicode_utf8_first) }

end Go.Proofs.YthknmkebdlnahaaDoor
