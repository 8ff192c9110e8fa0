/-
  What cursor's text and Text do.
  Lists of bytes in blocks of their own, out of a conversion or an append: an append to one; what a conversion makes.
  Texts and lists of bytes: conversions, there and back.
  What cursor's Put8, Put16, Put32 and PutText do.
  What is read, laid again, is the bytes that were read.
  What is laid is read as it was: plain mathematics.
  What quipulaw11's laid and read do.
  The calls whose answers the document fixes.
-/
import Derived.Test.YthknmkebdlnahaaDoorDB2
import Derived.ArgAppend
import Derived.Lib.ConvBytes
import Derived.Laws.BytesArg
import Derived.Deep.RegionHeld3
import Derived.Deep.DeepCutAuto
namespace Go.Proofs.YthknmkebdlnahaaDoor
open Go.RowKit Go.Shelf

def OffT (D : Nat) : Prop := 0 ≠ D ∧ 1 ≠ D

theorem lt_of_cell {w : World} {g i : Nat} {v : Value} (h : w.cell? ⟨g, i, none⟩ = some v) : g < w.heap.size := by
  by_cases hg : g < w.heap.size
  · exact hg
  · unfold World.cell? at h
    rw [Array.getElem?_eq_none (by show w.heap.size ≤ g; omega)] at h
    simp at h

theorem U8.lt {w : World} (h : U8 w) : 0 < w.heap.size ∧ 1 < w.heap.size := ⟨lt_of_cell (h.1 0 (by decide)), lt_of_cell (h.2 0 (by decide)).1⟩
theorem U8.off {w : World} (h : U8 w) {D : Nat} (hD : w.heap.size ≤ D) : OffT D := by
  have := h.lt
  exact ⟨by omega, by omega⟩
theorem U8.but {D : Nat} {w w' : World} (h : U8 w) (hb : But D w w') (hD : OffT D) : U8 w' := by
  obtain ⟨l1, l2⟩ := h.lt
  refine ⟨fun c hc => ?_, fun i hi => ⟨?_, ?_⟩⟩
  · rw [hb.cell l1 hD.1]; exact h.1 c hc
  · rw [hb.cell l2 hD.2]; exact (h.2 i hi).1
  · rw [hb.cell l2 hD.2]; exact (h.2 i hi).2

def txtF (s : ByteArray) (at_ : Nat) (most : Int) : Nat :=
  if s.size < at_ + 2 then 110 else if most < (beA (bys s) at_ 2 : Int) then 112 else if s.size < at_ + 2 + beA (bys s) at_ 2 then 110
  else if (runesL (bys (s.extract (at_ + 2) (at_ + 2 + beA (bys s) at_ 2)))).isSome = false then 111 else 0
def txtS (s : ByteArray) (at_ : Nat) : ByteArray := s.extract (at_ + 2) (at_ + 2 + beA (bys s) at_ 2)

section
variable {w : World} {D : Nat} {s : ByteArray} {at_ e : Nat}

set_option maxHeartbeats 1000000 in
theorem text_no (most : Int) (f : Nat) (hs : s.size ≤ 140737488355328) (ha : at_ ≤ s.size) (h : Cur w D s at_ 0) (hT : U8 w) (hD : OffT D) (hf : txtF s at_ most = f) (h0 : f ≠ 0) :
    Calls Tryd.prog 43 #[.pointer (some ⟨D, 0, none⟩), .int .i64 most] w fun x w' => Pan f x ∧ (∃ k, Cur w' D s k 0) ∧ But D w w' := by
  unfold txtF at hf
  by_cases h1 : s.size < at_ + 2
  · rw [if_pos h1] at hf
    subst hf
    have HN := hide (number2_no (by omega) ha h h1)
    have HC := hide h
    clear h hT hD
    go_enter Tryd.func43, Tryd.ntmps43
    go_wp2_with fail
    refine HN.out.mono ?_
    rintro x w1 ⟨rfl, hb⟩
    have HB := hide hb
    clear hb
    go_wp2
    exact ⟨rfl, rfl, ⟨at_, HC.out.below HB.out⟩, But.of_below HB.out⟩
  rw [if_neg h1] at hf
  have HN := hide (number2_ok (by omega) h (by omega))
  have hNl := beA_lt (bys s) at_ 2
  have HT := hide hT
  clear hT h
  have HVV : Hid (∀ X, U8 X → Calls Tryd.prog 18 #[.string (s.extract (at_ + 2) (at_ + 2 + beA (bys s) at_ 2))] X fun x w' => x = .returned (.bool (runesL (bys (s.extract (at_ + 2) (at_ + 2 + beA (bys s) at_ 2)))).isSome) ∧ Below X.heap.size X w') := fun X hX => Valid_any _ X (by rw [ByteArray.size_extract]; omega) hX
  generalize beA (bys s) at_ 2 = N at *
  by_cases h2 : most < (N : Int)
  · rw [if_pos h2] at hf
    subst hf
    clear HVV
    go_enter Tryd.func43, Tryd.ntmps43
    go_wp2_with fail
    refine HN.out.mono ?_
    rintro x w1 ⟨rfl, hc, hb⟩
    have HC := hide hc
    have HB := hide hb
    clear hc hb
    go_wp2
    exact ⟨rfl, rfl, ⟨_, HC.out⟩, HB.out⟩
  rw [if_neg h2] at hf
  by_cases h3 : s.size < at_ + 2 + N
  · rw [if_pos h3] at hf
    subst hf
    clear HVV
    go_enter Tryd.func43, Tryd.ntmps43
    go_wp2_with fail
    refine HN.out.mono ?_
    rintro x w1 ⟨rfl, hc, hb⟩
    have HK := hide (take_no N (by omega) (by omega) hc h3)
    have HC := hide hc
    have HB := hide hb
    clear hc hb
    go_wp2_with fail
    refine HK.out.mono ?_
    rintro x w2 ⟨rfl, hb2⟩
    have HB2 := hide hb2
    clear hb2 HK
    go_wp2
    exact ⟨rfl, rfl, ⟨_, HC.out.below HB2.out⟩, HB.out.trans (But.of_below HB2.out)⟩
  rw [if_neg h3] at hf
  by_cases h4 : (runesL (bys (s.extract (at_ + 2) (at_ + 2 + N)))).isSome = false
  · rw [if_pos h4] at hf
    subst hf
    rw [h4] at HVV
    go_enter Tryd.func43, Tryd.ntmps43
    go_wp2_with fail
    refine HN.out.mono ?_
    rintro x w1 ⟨rfl, hc, hb⟩
    have HK := hide (take_ok N (by omega) hc (by omega))
    have HB := hide hb
    clear hc hb
    go_wp2_with fail
    refine HK.out.mono ?_
    rintro x w2 ⟨rfl, hc2, hb2⟩
    have HB2 := hide (HB.out.trans hb2)
    have HC2 := hide hc2
    clear hb2 HK HB hc2
    go_wp2_with fail
    refine (HVV.out _ (HT.out.but HB2.out hD)).mono ?_
    rintro x w3 ⟨rfl, hb3⟩
    have HB3 := hide hb3
    clear hb3
    go_wp2
    exact ⟨rfl, rfl, ⟨_, HC2.out.below HB3.out⟩, HB2.out.trans (But.of_below HB3.out)⟩
  · rw [if_neg h4] at hf
    exact absurd hf.symm h0

set_option maxHeartbeats 1000000 in
theorem text_ok (most : Int) (hs : s.size ≤ 140737488355328) (h : Cur w D s at_ 0) (hT : U8 w) (hD : OffT D) (hf : txtF s at_ most = 0) :
    Calls Tryd.prog 43 #[.pointer (some ⟨D, 0, none⟩), .int .i64 most] w fun x w' => x = .returned (.string (txtS s at_)) ∧ Cur w' D s (at_ + 2 + beA (bys s) at_ 2) 0 ∧ But D w w' := by
  unfold txtF at hf
  unfold txtS
  by_cases h1 : s.size < at_ + 2
  · rw [if_pos h1] at hf; omega
  rw [if_neg h1] at hf
  have HN := hide (number2_ok (by omega) h (by omega))
  have hNl := beA_lt (bys s) at_ 2
  have HT := hide hT
  clear hT h
  have HVV : Hid (∀ X, U8 X → Calls Tryd.prog 18 #[.string (s.extract (at_ + 2) (at_ + 2 + beA (bys s) at_ 2))] X fun x w' => x = .returned (.bool (runesL (bys (s.extract (at_ + 2) (at_ + 2 + beA (bys s) at_ 2)))).isSome) ∧ Below X.heap.size X w') := fun X hX => Valid_any _ X (by rw [ByteArray.size_extract]; omega) hX
  generalize beA (bys s) at_ 2 = N at *
  by_cases h2 : most < (N : Int)
  · rw [if_pos h2] at hf; omega
  rw [if_neg h2] at hf
  by_cases h3 : s.size < at_ + 2 + N
  · rw [if_pos h3] at hf; omega
  rw [if_neg h3] at hf
  cases h4 : (runesL (bys (s.extract (at_ + 2) (at_ + 2 + N)))).isSome with
  | false => rw [if_pos h4] at hf; omega
  | true =>
    rw [h4] at HVV
    clear hf
    go_enter Tryd.func43, Tryd.ntmps43
    go_wp2_with fail
    refine HN.out.mono ?_
    rintro x w1 ⟨rfl, hc, hb⟩
    have HK := hide (take_ok N (by omega) hc (by omega))
    have HB := hide hb
    clear hc hb
    go_wp2_with fail
    refine HK.out.mono ?_
    rintro x w2 ⟨rfl, hc2, hb2⟩
    have HB2 := hide (HB.out.trans hb2)
    have HC2 := hide hc2
    clear hb2 HK HB hc2
    go_wp2_with fail
    refine (HVV.out _ (HT.out.but HB2.out hD)).mono ?_
    rintro x w3 ⟨rfl, hb3⟩
    have HB3 := hide hb3
    clear hb3
    go_wp2
    go_ret
    exact ⟨rfl, HC2.out.below HB3.out, HB2.out.trans (But.of_below HB3.out)⟩


set_option maxHeartbeats 1000000 in
theorem cloT_ok {X : World} (a m b : Nat) (most : Int) (hs : s.size ≤ 140737488355328) (h : Cur X D s at_ 0) (hT : U8 X) (hD : OffT D) (hf : txtF s at_ most = 0) (ha : Blk X a #[.pointer (some ⟨D, 0, none⟩)] 39) (hm : Blk X m #[.int .i64 most] 3) (hb : Blk X b #[.string ⟨#[]⟩] 9) (hbD : b ≠ D) (hw : But D w X) (hwb : w.heap.size ≤ b) :
    Calls Tryd.prog 42 #[.pointer (some ⟨a, 0, none⟩), .pointer (some ⟨m, 0, none⟩), .pointer (some ⟨b, 0, none⟩)] X fun x X' => x = .returned (.tuple #[]) ∧ Cur X' D s (at_ + 2 + beA (bys s) at_ 2) 0 ∧ Blk X' b #[.string (txtS s at_)] 9 ∧ But D w X' := by
  have HN := hide (text_ok most hs h hT hD hf)
  have ca := ha.cell 0
  have cm := hm.cell 0
  have HBB := hide hb
  have HW := hide hw
  clear h ha hb hw hm hf hT hD
  go_enter Tryd.func42, Tryd.ntmps42
  go_wp2_with fail
  refine HN.out.mono ?_
  rintro x w1 ⟨rfl, hc, ht⟩
  have q := ht.blk HBB.out hbD
  have q0 := q.cell 0
  have f0 := q.free 0
  have Q1 := hide (q.one (.string (txtS s at_)))
  have HC := hide hc
  have HT := hide ht
  clear hc ht q
  go_wp2
  simp [bodyPost, results, Tryd.results42, go_sem]
  exact ⟨Blk.other HC.out (a := ⟨b, 0, none⟩) hbD _, Q1.out, (HW.out.trans HT.out).setNew hwb _⟩

set_option maxHeartbeats 1000000 in
theorem cloT_no {X : World} (a m b : Nat) (most : Int) (f : Nat) (hs : s.size ≤ 140737488355328) (ha' : at_ ≤ s.size) (h : Cur X D s at_ 0) (hT : U8 X) (hD : OffT D) (hf : txtF s at_ most = f) (h0 : f ≠ 0) (ha : Blk X a #[.pointer (some ⟨D, 0, none⟩)] 39) (hm : Blk X m #[.int .i64 most] 3) :
    Calls Tryd.prog 42 #[.pointer (some ⟨a, 0, none⟩), .pointer (some ⟨m, 0, none⟩), .pointer (some ⟨b, 0, none⟩)] X fun x X' => Pan f x ∧ (∃ k, Cur X' D s k 0) ∧ But D X X' := by
  have HN := hide (text_no most f hs ha' h hT hD hf h0)
  have ca := ha.cell 0
  have cm := hm.cell 0
  clear h ha hm ha' hf hT hD
  go_enter Tryd.func42, Tryd.ntmps42
  go_wp2_with fail
  refine HN.out.mono ?_
  rintro x w1 ⟨rfl, ⟨k, hc⟩, hb⟩
  have HB := hide hb
  have HC := hide hc
  clear hb hc
  go_wp2
  exact ⟨rfl, rfl, ⟨k, HC.out⟩, HB.out⟩

def tgtV (s : ByteArray) (at_ e : Nat) (most : Int) : ByteArray := if e = 0 ∧ txtF s at_ most = 0 then txtS s at_ else ⟨#[]⟩
def tgtA (s : ByteArray) (at_ e : Nat) (most : Int) : Nat := if e = 0 ∧ txtF s at_ most = 0 then at_ + 2 + beA (bys s) at_ 2 else at_
def tgtE (s : ByteArray) (at_ e : Nat) (most : Int) : Nat := if e = 0 then txtF s at_ most else e

set_option maxHeartbeats 1000000 in
theorem Text_any (most : Int) (hs : s.size ≤ 140737488355328) (ha : at_ ≤ s.size) (h : Cur w D s at_ e) (hT : U8 w) (hD : OffT D) : Calls Tryd.prog 29 #[.pointer (some ⟨D, 0, none⟩), .int .i64 most] w fun x w' => x = .returned (.string (tgtV s at_ e most)) ∧ Cur w' D s (tgtA s at_ e most) (tgtE s at_ e most) ∧ But D w w' := by
  have hmf : ∀ (fn : Fn) (first cap : Array Value) (w : World), (Instr.makeFunc fn first cap).run Tryd.prog w = .ok (.func fn first cap) w := fun _ _ _ _ => rfl
  have hDl := h.lt
  have HB1 : Hid (Below w.heap.size w ((w.alloc (.cells #[.pointer (some ⟨D, 0, none⟩)] 39)).alloc (.cells #[.int .i64 most] 3))) := ((Below.refl _ _).alloc (Nat.le_refl _) _).alloc ((Below.refl _ _).alloc (Nat.le_refl _) _).size _
  have HB2 : Hid (Below w.heap.size w (((w.alloc (.cells #[.pointer (some ⟨D, 0, none⟩)] 39)).alloc (.cells #[.int .i64 most] 3)).alloc (.cells #[.string ⟨#[]⟩] 9))) := HB1.out.alloc HB1.out.size _
  have HC := hide (h.below HB2.out)
  have HT := hide (hT.below HB2.out)
  have K1 : Hid (Blk (((w.alloc (.cells #[.pointer (some ⟨D, 0, none⟩)] 39)).alloc (.cells #[.int .i64 most] 3)).alloc (.cells #[.string ⟨#[]⟩] 9)) w.heap.size #[.pointer (some ⟨D, 0, none⟩)] 39) := ((Blk.new _ _ _).alloc _).alloc _
  have K2 : Hid (Blk (((w.alloc (.cells #[.pointer (some ⟨D, 0, none⟩)] 39)).alloc (.cells #[.int .i64 most] 3)).alloc (.cells #[.string ⟨#[]⟩] 9)) (w.heap.size + 1) #[.int .i64 most] 3) := (Blk.newAt _ _ (by simp) _ _).alloc _
  have K3 : Hid (Blk (((w.alloc (.cells #[.pointer (some ⟨D, 0, none⟩)] 39)).alloc (.cells #[.int .i64 most] 3)).alloc (.cells #[.string ⟨#[]⟩] 9)) (w.heap.size + 2) #[.string ⟨#[]⟩] 9) := Blk.newAt _ _ (by simp) _ _
  have hz1 : w.heap.size < (((w.alloc (.cells #[.pointer (some ⟨D, 0, none⟩)] 39)).alloc (.cells #[.int .i64 most] 3)).alloc (.cells #[.string ⟨#[]⟩] 9)).heap.size := K1.out.lt
  have hz2 : w.heap.size + 1 < (((w.alloc (.cells #[.pointer (some ⟨D, 0, none⟩)] 39)).alloc (.cells #[.int .i64 most] 3)).alloc (.cells #[.string ⟨#[]⟩] 9)).heap.size := K2.out.lt
  have hz3 : w.heap.size + 2 < (((w.alloc (.cells #[.pointer (some ⟨D, 0, none⟩)] 39)).alloc (.cells #[.int .i64 most] 3)).alloc (.cells #[.string ⟨#[]⟩] 9)).heap.size := K3.out.lt
  have hent : ∀ args w, (callFunc 42 args).run Tryd.prog w = .ok (.enter 42 args) w := enters_of Tryd.func42 (by kernel_rfl) rfl
  clear h hT
  by_cases h0 : e = 0
  · subst h0
    by_cases hn : txtF s at_ most = 0
    · have e1 : tgtV s at_ 0 most = txtS s at_ := by unfold tgtV; rw [if_pos ⟨rfl, hn⟩]
      have e2 : tgtA s at_ 0 most = at_ + 2 + beA (bys s) at_ 2 := by unfold tgtA; rw [if_pos ⟨rfl, hn⟩]
      have e3 : tgtE s at_ 0 most = 0 := by unfold tgtE; rw [if_pos rfl, hn]
      rw [e1, e2, e3]
      have HA := hide (attempt_ok 42 #[.pointer (some ⟨w.heap.size, 0, none⟩), .pointer (some ⟨w.heap.size + 1, 0, none⟩), .pointer (some ⟨w.heap.size + 2, 0, none⟩)] (fun _ X' => Cur X' D s (at_ + 2 + beA (bys s) at_ 2) 0 ∧ Blk X' (w.heap.size + 2) #[.string (txtS s at_)] 9 ∧ But D w X') HC.out hent
        (fun X hX => cloT_ok w.heap.size (w.heap.size + 1) (w.heap.size + 2) most hs (HC.out.below hX) (HT.out.below hX) hD hn (K1.out.below hX hz1) (K2.out.below hX hz2) (K3.out.below hX hz3) (by omega) ((But.of_below HB2.out).trans (But.of_below hX)) (by omega)))
      clear e1 e2 e3 hent HC K1 K2 K3 hn HT hD
      go_enter Tryd.func29, Tryd.ntmps29
      go_wp2_with fail
      refine HA.out.mono ?_
      rintro x w1 ⟨rfl, X, hX, hc, hq, hb⟩
      have q0 := hq.cell 0
      have f0 := hq.free 0
      have Q1 := hide (hq.one (.string (txtS s at_)))
      have r0 := Q1.out.cell 0
      have HCC := hide hc
      have HBB := hide hb
      clear hc hq hb hX HA
      go_wp2
      simp [bodyPost, results, Tryd.results29, go_sem, r0]
      exact ⟨Blk.other HCC.out (a := ⟨w.heap.size + 2, 0, none⟩) (by show w.heap.size + 2 ≠ D; omega) _, HBB.out.setNew (by omega) _⟩
    · have e1 : tgtV s at_ 0 most = ⟨#[]⟩ := by unfold tgtV; rw [if_neg (by omega)]
      have e2 : tgtA s at_ 0 most = at_ := by unfold tgtA; rw [if_neg (by omega)]
      have e3 : tgtE s at_ 0 most = txtF s at_ most := by unfold tgtE; rw [if_pos rfl]
      rw [e1, e2, e3]
      have HA := hide (attempt_no 42 #[.pointer (some ⟨w.heap.size, 0, none⟩), .pointer (some ⟨w.heap.size + 1, 0, none⟩), .pointer (some ⟨w.heap.size + 2, 0, none⟩)] (txtF s at_ most) HC.out hent
        (fun X hX => cloT_no w.heap.size (w.heap.size + 1) (w.heap.size + 2) most _ hs ha (HC.out.below hX) (HT.out.below hX) hD rfl hn (K1.out.below hX hz1) (K2.out.below hX hz2)))
      generalize txtF s at_ most = f at *
      clear e1 e2 e3 hent HC K1 K2 hn HT hD
      go_enter Tryd.func29, Tryd.ntmps29
      go_wp2_with fail
      refine HA.out.mono ?_
      rintro x w1 ⟨rfl, hc, hb⟩
      have hq := hb.blk K3.out (by omega)
      have q0 := hq.cell 0
      have f0 := hq.free 0
      have Q1 := hide (hq.one (.string ⟨#[]⟩))
      have r0 := Q1.out.cell 0
      have HCC := hide hc
      have HBB := hide ((But.of_below HB2.out).trans hb)
      clear hc hq hb HA K3
      go_wp2
      simp [bodyPost, results, Tryd.results29, go_sem, r0]
      exact ⟨Blk.other HCC.out (a := ⟨w.heap.size + 2, 0, none⟩) (by show w.heap.size + 2 ≠ D; omega) _, HBB.out.setNew (by omega) _⟩
  · have e1 : tgtV s at_ e most = ⟨#[]⟩ := by unfold tgtV; rw [if_neg (by omega)]
    have e2 : tgtA s at_ e most = at_ := by unfold tgtA; rw [if_neg (by omega)]
    have e3 : tgtE s at_ e most = e := by unfold tgtE; rw [if_neg h0]
    rw [e1, e2, e3]
    have HA := hide (attempt_idle (.func (.func 42) #[] #[.pointer (some ⟨w.heap.size, 0, none⟩), .pointer (some ⟨w.heap.size + 1, 0, none⟩), .pointer (some ⟨w.heap.size + 2, 0, none⟩)]) HC.out h0)
    clear e1 e2 e3 hent K1 K2 HT hD
    go_enter Tryd.func29, Tryd.ntmps29
    go_wp2_with fail
    refine HA.out.mono ?_
    rintro x w1 ⟨rfl, hb⟩
    have hq := K3.out.below hb hz3
    have q0 := hq.cell 0
    have f0 := hq.free 0
    have Q1 := hide (hq.one (.string ⟨#[]⟩))
    have r0 := Q1.out.cell 0
    have HCC := hide (HC.out.below hb)
    have HBB := hide ((But.of_below (D := D) HB2.out).trans (But.of_below hb))
    clear hq hb HA K3 HC
    go_wp2
    simp [bodyPost, results, Tryd.results29, go_sem, r0]
    exact ⟨Blk.other HCC.out (a := ⟨w.heap.size + 2, 0, none⟩) (by show w.heap.size + 2 ≠ D; omega) _, HBB.out.setNew (by omega) _⟩

end

end Go.Proofs.YthknmkebdlnahaaDoor

namespace Go.Proofs.YthknmkebdlnahaaDoor
open Go.RowKit

end Go.Proofs.YthknmkebdlnahaaDoor

namespace Go.Proofs.YthknmkebdlnahaaDoor
open Go.RowKit

theorem strB_of (l : List UInt8) : strOfNums ((l.map UInt8.toNat).map fun (x : Nat) => (x : Int)) = ⟨l.toArray⟩ := by
  apply ByteArray.ext
  apply Array.toList_inj.1
  rw [strOfNums_data, List.map_map, List.map_map]
  show _ = l
  conv => rhs; rw [← List.map_id l]
  apply List.map_congr_left
  intro x _
  simp

theorem Tryd.infoBz : (Tryd.prog.info? 5).map (fun i => (i.zero, i.size, i.bytes)) = some (some (.int .u8 0), 1, 1) := by kernel_rfl

theorem convB_at {X : World} {g o cap : Nat} {l : List UInt8} (h : ∀ i, i < l.length → X.cell? ⟨g, o + i, none⟩ = some (.int .u8 ((byt l i : Nat) : Int))) : (convert 34 9 (.slice (some ⟨g, o, none⟩) l.length cap)).run Tryd.prog X = .ok (.string ⟨l.toArray⟩) X := by
  have kc := run_convert_bytes_arg (P := Tryd.prog) X 34 5 Tryd.underlying34 Tryd.underlying5 g o l.length cap ((l.map UInt8.toNat).map fun (x : Nat) => (x : Int)) (by rw [List.length_map, List.length_map]) (fun i hi => by
    rw [h i hi]
    unfold byt
    simp [List.getD, hi]) 9 Tryd.underlying9
  rw [strB_of] at kc
  exact kc

end Go.Proofs.YthknmkebdlnahaaDoor

namespace Go.Proofs.YthknmkebdlnahaaDoor
open Go.RowKit

def bN (n : Int) (k : Nat) : UInt8 := UInt8.ofNat ((n / 2 ^ (8 * k)) % 256).toNat
theorem bN_nat (n : Int) (k : Nat) : (((bN n k).toNat : Nat) : Int) = (n / 2 ^ (8 * k)) % 256 := by
  unfold bN
  rw [UInt8.toNat_ofNat']
  have h1 := Int.emod_nonneg (n / 2 ^ (8 * k)) (show (256 : Int) ≠ 0 by decide)
  have h2 := Int.emod_lt_of_pos (n / 2 ^ (8 * k)) (show (0 : Int) < 256 by decide)
  omega

set_option maxHeartbeats 1000000 in
theorem Put8_any (n : Int) (w : World) : Calls Tryd.prog 10 #[.int .i64 n] w fun e w' => e = .returned (.string ⟨#[bN n 0]⟩) ∧ Below w.heap.size w w' := by
  have hb : n % 256 = (((bN n 0).toNat : Nat) : Int) := by rw [bN_nat]; simp
  have HCV : Hid ((convert 34 9 (.slice (some ⟨w.heap.size, 0, none⟩) 1 1)).run Tryd.prog (w.alloc (.cells #[.int .u8 (n % 256)] 5)) = .ok (.string ⟨#[bN n 0]⟩) (w.alloc (.cells #[.int .u8 (n % 256)] 5))) :=
    convB_at (l := [bN n 0]) (fun i hi => by
      obtain rfl : i = 0 := by simpa using hi
      have := (Blk.new w #[.int .u8 (n % 256)] 5).cell 0
      rw [Nat.add_zero, this, hb]
      rfl)
  have hcv := HCV.out
  clear HCV hb
  go_enter Tryd.func10, Tryd.ntmps10
  go_wp2
  go_ret
  exact ⟨rfl, (Below.refl _ _).alloc (Nat.le_refl _) _⟩

theorem bN_shift (n : Int) (j k : Nat) : bN (n / 2 ^ (8 * j)) k = bN n (j + k) := by
  unfold bN
  rw [Int.ediv_ediv_of_nonneg (by exact Int.le_of_lt (Int.pow_pos (by decide))), ← Int.pow_add, ← Nat.mul_add]

def put2 (n : Int) : ByteArray := ⟨#[bN n 1, bN n 0]⟩
def put4 (n : Int) : ByteArray := ⟨#[bN n 3, bN n 2, bN n 1, bN n 0]⟩

theorem cat2 (n : Int) : (⟨#[bN (n / 256) 0]⟩ : ByteArray) ++ ⟨#[bN n 0]⟩ = put2 n := by
  have := bN_shift n 1 0
  rw [show (2 : Int) ^ (8 * 1) = 256 by decide] at this
  rw [this]
  rfl
theorem cat4 (n : Int) : put2 (n / 65536) ++ put2 n = put4 n := by
  have h0 := bN_shift n 2 0
  have h1 := bN_shift n 2 1
  rw [show (2 : Int) ^ (8 * 2) = 65536 by decide] at h0 h1
  unfold put2 put4
  rw [h0, h1]
  rfl

set_option maxHeartbeats 1000000 in
theorem Put16_any (n : Int) (w : World) : Calls Tryd.prog 12 #[.int .i64 n] w fun e w' => e = .returned (.string (put2 n)) ∧ Below w.heap.size w w' := by
  have HP : Hid (∀ m X, Calls Tryd.prog 10 #[.int .i64 m] X fun e w' => e = .returned (.string ⟨#[bN m 0]⟩) ∧ Below X.heap.size X w') := fun m X => Put8_any m X
  have HC := hide (cat2 n)
  have hz : ¬ 9223372036854775807 < (⟨#[bN (n / 256) 0]⟩ : ByteArray).size + (⟨#[bN n 0]⟩ : ByteArray).size := by show ¬ _ < 1 + 1; omega
  go_enter Tryd.func12, Tryd.ntmps12
  go_wp2_with fail
  refine (HP.out _ _).mono ?_
  generalize (⟨#[bN (n / 256) 0]⟩ : ByteArray) = A at *
  rintro e w1 ⟨rfl, hb⟩
  have HB := hide hb
  clear hb
  go_wp2_with fail
  refine (HP.out _ _).mono ?_
  clear HP
  generalize (⟨#[bN n 0]⟩ : ByteArray) = B at *
  rintro e w2 ⟨rfl, hb⟩
  have HB2 := hide (HB.out.trans (hb.mono HB.out.size))
  clear hb HB
  have hc := HC.out
  go_wp2
  go_ret
  first | exact ⟨rfl, HB2.out⟩ | exact ⟨by rw [← hc]; rfl, HB2.out⟩

set_option maxHeartbeats 1000000 in
theorem Put32_any (n : Int) (w : World) : Calls Tryd.prog 13 #[.int .i64 n] w fun e w' => e = .returned (.string (put4 n)) ∧ Below w.heap.size w w' := by
  have HP : Hid (∀ m X, Calls Tryd.prog 12 #[.int .i64 m] X fun e w' => e = .returned (.string (put2 m)) ∧ Below X.heap.size X w') := fun m X => Put16_any m X
  have HC := hide (cat4 n)
  have hz : ¬ 9223372036854775807 < (put2 (n / 65536)).size + (put2 n).size := by show ¬ _ < 2 + 2; omega
  go_enter Tryd.func13, Tryd.ntmps13
  go_wp2_with fail
  refine (HP.out _ _).mono ?_
  generalize put2 (n / 65536) = A at *
  rintro e w1 ⟨rfl, hb⟩
  have HB := hide hb
  clear hb
  go_wp2_with fail
  refine (HP.out _ _).mono ?_
  clear HP
  generalize put2 n = B at *
  rintro e w2 ⟨rfl, hb⟩
  have HB2 := hide (HB.out.trans (hb.mono HB.out.size))
  clear hb HB
  have hc := HC.out
  go_wp2
  go_ret
  first | exact ⟨rfl, HB2.out⟩ | exact ⟨by rw [← hc]; rfl, HB2.out⟩

def ptxE (s : ByteArray) : Nat := if 1024 < s.size then 112 else if (runesL (bys s)).isSome = false then 111 else 0
def ptxV (s : ByteArray) : ByteArray := if ptxE s = 0 then put2 (s.size : Int) ++ s else ⟨#[]⟩

set_option maxHeartbeats 1000000 in
theorem PutText_any (s : ByteArray) (w : World) (hT : U8 w) : Calls Tryd.prog 8 #[.string s] w fun e w' => e = .returned (.tuple #[.string (ptxV s), .int .i64 (ptxE s : Int)]) ∧ Below w.heap.size w w' := by
  by_cases h1 : 1024 < s.size
  · have e1 : ptxE s = 112 := by unfold ptxE; rw [if_pos h1]
    have e2 : ptxV s = ⟨#[]⟩ := by unfold ptxV; rw [e1, if_neg (by decide)]
    rw [e1, e2]
    have h1' : 1024 < (s.size : Int) := by omega
    clear hT e1 e2
    go_enter Tryd.func8, Tryd.ntmps8
    go_wp2
    go_ret2
    exact ⟨rfl, Below.refl _ _⟩
  have h1' : ¬ 1024 < (s.size : Int) := by omega
  have HV := hide (Valid_any s w (by omega) hT)
  cases h2 : (runesL (bys s)).isSome with
  | false =>
    have e1 : ptxE s = 111 := by unfold ptxE; rw [if_neg h1, if_pos h2]
    have e2 : ptxV s = ⟨#[]⟩ := by unfold ptxV; rw [e1, if_neg (by decide)]
    rw [e1, e2]
    rw [h2] at HV
    clear hT e1 e2
    go_enter Tryd.func8, Tryd.ntmps8
    go_wp2_with fail
    refine HV.out.mono ?_
    rintro e w1 ⟨rfl, hb⟩
    go_wp2
    go_ret2
    exact ⟨rfl, hb⟩
  | true =>
    have e1 : ptxE s = 0 := by unfold ptxE; rw [if_neg h1, if_neg (by rw [h2]; decide)]
    have e2 : ptxV s = put2 (s.size : Int) ++ s := by unfold ptxV; rw [e1, if_pos rfl]
    rw [e1, e2]
    rw [h2] at HV
    have HP : Hid (∀ X, Calls Tryd.prog 12 #[.int .i64 (s.size : Int)] X fun e w' => e = .returned (.string (put2 (s.size : Int))) ∧ Below X.heap.size X w') := fun X => Put16_any _ X
    have hz : ¬ 9223372036854775807 < (put2 (s.size : Int)).size + s.size := by show ¬ _ < 2 + s.size; omega
    generalize put2 (s.size : Int) = A at *
    clear hT e1 e2
    go_enter Tryd.func8, Tryd.ntmps8
    go_wp2_with fail
    refine HV.out.mono ?_
    rintro e w1 ⟨rfl, hb⟩
    have HB := hide hb
    clear hb HV
    go_wp2_with fail
    refine (HP.out _).mono ?_
    rintro e w2 ⟨rfl, hb⟩
    have HB2 := hide (HB.out.trans (hb.mono HB.out.size))
    clear hb HB HP
    go_wp2
    go_ret2
    exact ⟨rfl, HB2.out⟩

end Go.Proofs.YthknmkebdlnahaaDoor

namespace Go.Proofs.YthknmkebdlnahaaDoor
open Go.RowKit

theorem mkByB (t : ByteArray) : (⟨(bys t).toArray⟩ : ByteArray) = t := by
  unfold bys
  cases t
  simp
theorem bys_injB {f g : ByteArray} (h : bys f = bys g) : f = g := (mkByB f).symm.trans ((congrArg (fun l : List UInt8 => (⟨l.toArray⟩ : ByteArray)) h).trans (mkByB g))
theorem bys_cutB (t : ByteArray) (i j : Nat) : bys (t.extract i (i + j)) = ((bys t).drop i).take j := by
  unfold bys
  rw [ByteArray.data_extract, Array.toList_extract]
  simp only [List.extract, Nat.add_sub_cancel_left]

theorem take_next (l : List UInt8) (p k : Nat) (h : p < l.length) : (l.drop p).take (k + 1) = UInt8.ofNat (byt l p) :: (l.drop (p + 1)).take k := by
  rw [List.drop_eq_getElem_cons h, List.take_succ_cons]
  congr 1
  unfold byt
  simp [h]

theorem bN_low (a b : Nat) (hb : b < 256) : bN ((a * 256 + b : Nat) : Int) 0 = UInt8.ofNat b := by
  unfold bN
  congr 1
  rw [show (2 : Int) ^ (8 * 0) = 1 by decide, Int.ediv_one]
  omega
theorem bN_up (a b k : Nat) (hb : b < 256) : bN ((a * 256 + b : Nat) : Int) (k + 1) = bN (a : Int) k := by
  have h := bN_shift ((a * 256 + b : Nat) : Int) 1 k
  rw [Nat.add_comm 1 k] at h
  rw [← h, show (2 : Int) ^ (8 * 1) = 256 by decide]
  congr 1
  omega

theorem beA_one (l : List UInt8) (p : Nat) : beA l p 1 = 0 * 256 + byt l p := rfl
theorem beA_two (l : List UInt8) (p : Nat) : beA l p 2 = beA l p 1 * 256 + byt l (p + 1) := rfl
theorem beA_three (l : List UInt8) (p : Nat) : beA l p 3 = beA l p 2 * 256 + byt l (p + 2) := rfl
theorem beA_four (l : List UInt8) (p : Nat) : beA l p 4 = beA l p 3 * 256 + byt l (p + 3) := rfl

theorem again1 (s : ByteArray) (p : Nat) (h : p + 1 ≤ s.size) : s.extract p (p + 1) = ⟨#[bN (beA (bys s) p 1 : Int) 0]⟩ := by
  apply bys_injB
  have hl := bys_len s
  rw [bys_cutB, take_next _ _ _ (by omega), List.take_zero, beA_one, bN_low _ _ (byt_lt _ _)]
  rfl
theorem again2 (s : ByteArray) (p : Nat) (h : p + 2 ≤ s.size) : s.extract p (p + 2) = put2 (beA (bys s) p 2 : Int) := by
  apply bys_injB
  have hl := bys_len s
  rw [bys_cutB, take_next _ _ _ (by omega), take_next _ _ _ (by omega), List.take_zero]
  unfold put2
  rw [beA_two, bN_low _ _ (byt_lt _ _), bN_up _ _ _ (byt_lt _ _), beA_one, bN_low _ _ (byt_lt _ _)]
  rfl
theorem again4 (s : ByteArray) (p : Nat) (h : p + 4 ≤ s.size) : s.extract p (p + 4) = put4 (beA (bys s) p 4 : Int) := by
  apply bys_injB
  have hl := bys_len s
  rw [bys_cutB, take_next _ _ _ (by omega), take_next _ _ _ (by omega), take_next _ _ _ (by omega), take_next _ _ _ (by omega), List.take_zero]
  unfold put4
  rw [beA_four, bN_low _ _ (byt_lt _ _), bN_up _ _ _ (byt_lt _ _), bN_up _ _ _ (byt_lt _ _), bN_up _ _ _ (byt_lt _ _), beA_three, bN_low _ _ (byt_lt _ _), bN_up _ _ _ (byt_lt _ _), bN_up _ _ _ (byt_lt _ _), beA_two, bN_low _ _ (byt_lt _ _), bN_up _ _ _ (byt_lt _ _), beA_one, bN_low _ _ (byt_lt _ _)]
  rfl

theorem getV_val (s : ByteArray) (p e k : Nat) (he : e = 0) (hk : p + k ≤ s.size) : getV s p e k = beA (bys s) p k := by
  unfold getV
  rw [if_pos ⟨he, hk⟩]

end Go.Proofs.YthknmkebdlnahaaDoor

namespace Go.Proofs.YthknmkebdlnahaaDoor
open Go.RowKit

structure Tng where
  b : Int
  n : Int
  s : ByteArray

def laidV (t : Tng) : ByteArray := if t.b = 1 then ⟨#[bN t.n 0]⟩ else if t.b = 2 then put2 t.n else if t.b = 4 then put4 t.n else ptxV t.s
def laidOk (t : Tng) : Bool := if t.b = 1 then true else if t.b = 2 then true else if t.b = 4 then true else decide (ptxE t.s = 0)

theorem put2_size (n : Int) : (put2 n).size = 2 := rfl
theorem put4_size (n : Int) : (put4 n).size = 4 := rfl
theorem size_cat (a b : ByteArray) : (a ++ b).size = a.size + b.size := by rw [← bys_len, bys_append, List.length_append, bys_len, bys_len]

theorem ptxE_ok (s : ByteArray) (h : ptxE s = 0) : s.size ≤ 1024 ∧ (runesL (bys s)).isSome = true := by
  unfold ptxE at h
  split at h
  · omega
  split at h
  · omega
  · rename_i h1
    refine ⟨by omega, ?_⟩
    cases hb : (runesL (bys s)).isSome with
    | true => rfl
    | false => exact absurd hb h1

theorem ptxV_ok (s : ByteArray) (h : ptxE s = 0) : ptxV s = put2 (s.size : Int) ++ s := by unfold ptxV; rw [if_pos h]
theorem ptxV_size (s : ByteArray) : (ptxV s).size ≤ 1026 := by
  unfold ptxV
  split
  · rename_i h
    have := (ptxE_ok s h).1
    rw [size_cat, put2_size]
    omega
  · exact Nat.zero_le _

theorem laidV_size (t : Tng) : (laidV t).size ≤ 1026 := by
  unfold laidV
  split
  · show 1 ≤ 1026; omega
  split
  · rw [put2_size]; omega
  split
  · rw [put4_size]; omega
  · exact ptxV_size _

def Stands (s : ByteArray) (p : Nat) (f : ByteArray) : Prop := p + f.size ≤ s.size ∧ s.extract p (p + f.size) = f

theorem bN_inj {a b : Int} {k : Nat} (h : bN a k = bN b k) : a / 2 ^ (8 * k) % 256 = b / 2 ^ (8 * k) % 256 := by
  have h1 := bN_nat a k
  have h2 := bN_nat b k
  rw [h] at h1
  omega

theorem lists1 {a b : UInt8} (h : (⟨#[a]⟩ : ByteArray) = ⟨#[b]⟩) : a = b := by
  simpa using h
theorem lists2 {a b c d : UInt8} (h : (⟨#[a, b]⟩ : ByteArray) = ⟨#[c, d]⟩) : a = c ∧ b = d := by
  simpa using h
theorem lists4 {a b c d a' b' c' d' : UInt8} (h : (⟨#[a, b, c, d]⟩ : ByteArray) = ⟨#[a', b', c', d']⟩) : a = a' ∧ b = b' ∧ c = c' ∧ d = d' := by
  simpa using h

theorem low1 (m n : Int) (h0 : 0 ≤ m) (h1 : m < 256) (h : (⟨#[bN m 0]⟩ : ByteArray) = ⟨#[bN n 0]⟩) : m = n % 256 := by
  have e0 := bN_inj (lists1 h)
  rw [show (2 : Int) ^ (8 * 0) = 1 by decide, Int.ediv_one, Int.ediv_one] at e0
  omega
theorem low2 (m n : Int) (h0 : 0 ≤ m) (h1 : m < 65536) (h : put2 m = put2 n) : m = n % 65536 := by
  obtain ⟨h1', h0'⟩ := lists2 h
  have e0 := bN_inj h0'
  have e1 := bN_inj h1'
  rw [show (2 : Int) ^ (8 * 0) = 1 by decide, Int.ediv_one, Int.ediv_one] at e0
  rw [show (2 : Int) ^ (8 * 1) = 256 by decide] at e1
  omega
theorem low4 (m n : Int) (h0 : 0 ≤ m) (h1 : m < 4294967296) (h : put4 m = put4 n) : m = n % 4294967296 := by
  obtain ⟨h3', h2', h1', h0'⟩ := lists4 h
  have e0 := bN_inj h0'
  have e1 := bN_inj h1'
  have e2 := bN_inj h2'
  have e3 := bN_inj h3'
  rw [show (2 : Int) ^ (8 * 0) = 1 by decide, Int.ediv_one, Int.ediv_one] at e0
  rw [show (2 : Int) ^ (8 * 1) = 256 by decide] at e1
  rw [show (2 : Int) ^ (8 * 2) = 65536 by decide] at e2
  rw [show (2 : Int) ^ (8 * 3) = 16777216 by decide] at e3
  omega

theorem and_mask (n : Int) (k : Nat) (m : Int) (hk : k ≤ 32) (hm : (BitVec.ofInt 64 m).toNat = 2 ^ k - 1) : bits .and .i64 n m = n % ((2 ^ k : Nat) : Int) := by
  have key : (BitVec.ofInt 64 n &&& BitVec.ofInt 64 m).toNat = (n % ((2 ^ 64 : Nat) : Int)).toNat % 2 ^ k := by
    rw [BitVec.toNat_and, BitVec.toNat_ofInt, hm, Nat.and_two_pow_sub_one_eq_mod]
  show IntKind.i64.wrap ((BitVec.ofInt 64 n &&& BitVec.ofInt 64 m).toNat : Nat) = _
  rw [key, IntKind.wrap_i64]
  have hd : ((2 ^ k : Nat) : Int) ∣ ((2 ^ 64 : Nat) : Int) := by
    have : 2 ^ k ∣ 2 ^ 64 := Nat.pow_dvd_pow 2 (by omega)
    exact Int.natCast_dvd_natCast.2 this
  have h2 : n % ((2 ^ 64 : Nat) : Int) % ((2 ^ k : Nat) : Int) = n % ((2 ^ k : Nat) : Int) := Int.emod_emod_of_dvd n hd
  have h3 : (((n % ((2 ^ 64 : Nat) : Int)).toNat % 2 ^ k : Nat) : Int) = n % ((2 ^ k : Nat) : Int) := by
    rw [Int.natCast_emod, Int.toNat_of_nonneg (Int.emod_nonneg _ (by decide)), h2]
  rw [h3]
  have hpk : (2 ^ k : Nat) ≤ 4294967296 := by
    have : 2 ^ k ≤ 2 ^ 32 := Nat.pow_le_pow_right (by decide) hk
    omega
  have h4 : 0 ≤ n % ((2 ^ k : Nat) : Int) := Int.emod_nonneg _ (by have := Nat.two_pow_pos k; omega)
  have h5 : n % ((2 ^ k : Nat) : Int) < ((2 ^ k : Nat) : Int) := Int.emod_lt_of_pos _ (by have := Nat.two_pow_pos k; omega)
  generalize n % ((2 ^ k : Nat) : Int) = r at *
  omega
theorem msk8 (n : Int) : bits .and .i64 n 255 = n % 256 := and_mask n 8 255 (by decide) (by decide)
theorem msk16 (n : Int) : bits .and .i64 n 65535 = n % 65536 := and_mask n 16 65535 (by decide) (by decide)
theorem msk32 (n : Int) : bits .and .i64 n 4294967295 = n % 4294967296 := and_mask n 32 4294967295 (by decide) (by decide)

theorem read1 (s : ByteArray) (p : Nat) (n : Int) (h : Stands s p ⟨#[bN n 0]⟩) : (getV s p 0 1 : Int) = n % 256 ∧ getA s p 0 1 = p + 1 ∧ getE s p 0 1 = 0 := by
  obtain ⟨h1, h2⟩ := h
  have h1' : p + 1 ≤ s.size := h1
  have h2' : s.extract p (p + 1) = ⟨#[bN n 0]⟩ := h2
  rw [getV_val s p 0 1 rfl h1']
  rw [again1 s p h1'] at h2'
  have hl := beA_lt (bys s) p 1
  refine ⟨low1 _ _ (by omega) (by omega) h2', ?_, ?_⟩
  · unfold getA; rw [if_pos ⟨rfl, h1'⟩]
  · unfold getE; rw [if_pos rfl, if_pos h1']
theorem read2 (s : ByteArray) (p : Nat) (n : Int) (h : Stands s p (put2 n)) : (getV s p 0 2 : Int) = n % 65536 ∧ getA s p 0 2 = p + 2 ∧ getE s p 0 2 = 0 := by
  obtain ⟨h1, h2⟩ := h
  have h1' : p + 2 ≤ s.size := h1
  have h2' : s.extract p (p + 2) = put2 n := h2
  rw [getV_val s p 0 2 rfl h1']
  rw [again2 s p h1'] at h2'
  have hl := beA_lt (bys s) p 2
  refine ⟨low2 _ _ (by omega) (by omega) h2', ?_, ?_⟩
  · unfold getA; rw [if_pos ⟨rfl, h1'⟩]
  · unfold getE; rw [if_pos rfl, if_pos h1']
theorem read4 (s : ByteArray) (p : Nat) (n : Int) (h : Stands s p (put4 n)) : (getV s p 0 4 : Int) = n % 4294967296 ∧ getA s p 0 4 = p + 4 ∧ getE s p 0 4 = 0 := by
  obtain ⟨h1, h2⟩ := h
  have h1' : p + 4 ≤ s.size := h1
  have h2' : s.extract p (p + 4) = put4 n := h2
  rw [getV_val s p 0 4 rfl h1']
  rw [again4 s p h1'] at h2'
  have hl := beA_lt (bys s) p 4
  refine ⟨low4 _ _ (by omega) (by omega) h2', ?_, ?_⟩
  · unfold getA; rw [if_pos ⟨rfl, h1'⟩]
  · unfold getE; rw [if_pos rfl, if_pos h1']

theorem stands_parts (s : ByteArray) (p : Nat) (a b : ByteArray) (h : Stands s p (a ++ b)) : Stands s p a ∧ Stands s (p + a.size) b := by
  obtain ⟨h1, h2⟩ := h
  rw [size_cat] at h1 h2
  have e := congrArg bys h2
  rw [bys_cutB, bys_append, List.take_add] at e
  have hl : (((bys s).drop p).take a.size).length = (bys a).length := by rw [List.length_take, List.length_drop, bys_len, bys_len]; omega
  obtain ⟨e1, e2⟩ := List.append_inj e hl
  refine ⟨⟨by omega, bys_injB ?_⟩, ⟨by omega, bys_injB ?_⟩⟩
  · rw [bys_cutB]; exact e1
  · rw [bys_cutB, ← List.drop_drop]; exact e2

theorem readT (s : ByteArray) (p : Nat) (t : ByteArray) (he : ptxE t = 0) (h : Stands s p (ptxV t)) : tgtV s p 0 1024 = t ∧ tgtA s p 0 1024 = p + (ptxV t).size ∧ tgtE s p 0 1024 = 0 := by
  obtain ⟨z1, z2⟩ := ptxE_ok t he
  rw [ptxV_ok t he] at h ⊢
  obtain ⟨h1, h2⟩ := stands_parts s p _ _ h
  obtain ⟨r1, _, _⟩ := read2 s p _ h1
  have hsz := h1.1
  rw [put2_size] at hsz h2
  rw [getV_val s p 0 2 rfl hsz] at r1
  have hN : beA (bys s) p 2 = t.size := by omega
  obtain ⟨h3, h4⟩ := h2
  have hT : txtS s p = t := by unfold txtS; rw [hN]; exact h4
  have hF : txtF s p 1024 = 0 := by
    unfold txtF
    rw [hN, if_neg (by omega), if_neg (by omega), if_neg (by omega), if_neg (by rw [h4, z2]; decide)]
  refine ⟨?_, ?_, ?_⟩
  · unfold tgtV; rw [if_pos ⟨rfl, hF⟩, hT]
  · unfold tgtA; rw [if_pos ⟨rfl, hF⟩, hN, size_cat, put2_size]; omega
  · unfold tgtE; rw [if_pos rfl, hF]

def flatL (l : List Tng) : List UInt8 := l.flatMap fun t => bys (laidV t)
theorem flatL_app (a b : List Tng) : flatL (a ++ b) = flatL a ++ flatL b := by unfold flatL; rw [List.flatMap_append]
theorem flatL_one (t : Tng) : flatL [t] = bys (laidV t) := by unfold flatL; simp
theorem flatL_len : ∀ l : List Tng, (flatL l).length ≤ 1026 * l.length
  | [] => Nat.zero_le _
  | t :: r => by
    have h1 := flatL_len r
    have h2 := laidV_size t
    rw [show t :: r = [t] ++ r from rfl, flatL_app, flatL_one, List.length_append, bys_len, List.length_append, List.length_singleton]
    omega

def nthT (l : List Tng) (i : Nat) : Tng := l[i]?.getD ⟨0, 0, ⟨#[]⟩⟩

def posT (l : List Tng) (i : Nat) : Nat := (flatL (l.take i)).length
theorem take_succT (l : List Tng) (i : Nat) (h : i < l.length) : l.take (i + 1) = l.take i ++ [nthT l i] := by
  unfold nthT
  rw [List.take_add_one, List.getElem?_eq_getElem h]
  rfl
theorem posT_succ (l : List Tng) (i : Nat) (h : i < l.length) : posT l (i + 1) = posT l i + (laidV (nthT l i)).size := by
  unfold posT
  rw [take_succT l i h, flatL_app, flatL_one, List.length_append, bys_len]
theorem posT_end (l : List Tng) : posT l l.length = (flatL l).length := by unfold posT; rw [List.take_length]
theorem posT_le (l : List Tng) (i : Nat) : posT l i ≤ (flatL l).length := by
  have h : flatL l = flatL (l.take i) ++ flatL (l.drop i) := by rw [← flatL_app, List.take_append_drop]
  unfold posT
  rw [h, List.length_append]
  omega

theorem stands_at (l : List Tng) (s : ByteArray) (x : List UInt8) (hs : bys s = flatL l ++ x) (i : Nat) (h : i < l.length) : Stands s (posT l i) (laidV (nthT l i)) := by
  have e : flatL l = flatL (l.take i) ++ (bys (laidV (nthT l i)) ++ flatL (l.drop (i + 1))) := by
    rw [← flatL_one, ← flatL_app, ← flatL_app, ← List.append_assoc, ← take_succT l i h, List.take_append_drop]
  have hl : s.size = (flatL l).length + x.length := by rw [← bys_len, hs, List.length_append]
  constructor
  · have h1 := posT_succ l i h
    have h2 := posT_le l (i + 1)
    omega
  · apply bys_injB
    rw [bys_cutB, hs, e]
    unfold posT
    rw [List.append_assoc, List.append_assoc, List.drop_left, ← bys_len, List.take_left]

end Go.Proofs.YthknmkebdlnahaaDoor

namespace Go.Proofs.YthknmkebdlnahaaDoor
open Go.RowKit

theorem bdrC (w : World) : Hid (Below w.heap.size w w.drew) := (Below.refl _ _).drew

def tngV (t : Tng) : Value := .agg #[.int .i64 t.b, .int .i64 t.n, .string t.s]

set_option maxHeartbeats 2000000 in
theorem laid_any (t : Tng) (w : World) (hT : U8 w) : Calls Tryd.prog 20 #[tngV t] w fun x w' => x = .returned (.tuple #[.string (laidV t), .bool (laidOk t)]) ∧ Below w.heap.size w w' := by
  obtain ⟨b, n, s⟩ := t
  show Calls Tryd.prog 20 #[.agg #[.int .i64 b, .int .i64 n, .string s]] w _
  have HB1 : Hid (Below w.heap.size w (w.alloc (.cells #[.int .i64 b, .int .i64 n, .string s] 38))) := (Below.refl _ _).alloc (Nat.le_refl _) _
  have Q := Blk.new w #[.int .i64 b, .int .i64 n, .string s] 38
  have c0 := Q.cell 0
  have c1 := Q.cell 1
  have c2 := Q.cell 2
  have HT := hide (hT.below HB1.out)
  clear Q hT

  by_cases h1 : b = 1
  · have e1 : laidV ⟨b, n, s⟩ = ⟨#[bN n 0]⟩ := by unfold laidV; rw [if_pos h1]
    have e2 : laidOk ⟨b, n, s⟩ = true := by unfold laidOk; rw [if_pos h1]
    rw [e1, e2]
    clear e1 e2
    subst h1
    have HP : Hid (∀ X, Calls Tryd.prog 10 #[.int .i64 n] X fun x w' => x = .returned (.string (⟨#[bN n 0]⟩)) ∧ Below X.heap.size X w') := fun X => Put8_any n X
    generalize (⟨#[bN n 0]⟩ : ByteArray) = A at *
    go_enter Tryd.func20, Tryd.ntmps20
    go_wp2_with fail
    refine (HP.out _).mono ?_
    rintro x w1 ⟨rfl, hb⟩
    have HB2 := hide (HB1.out.trans (hb.mono HB1.out.size))
    clear hb
    go_wp2
    go_ret2
    exact ⟨rfl, HB2.out⟩
  by_cases h2 : b = 2
  · have e1 : laidV ⟨b, n, s⟩ = put2 n := by unfold laidV; rw [if_neg h1, if_pos h2]
    have e2 : laidOk ⟨b, n, s⟩ = true := by unfold laidOk; rw [if_neg h1, if_pos h2]
    rw [e1, e2]
    clear e1 e2
    subst h2
    have HP : Hid (∀ X, Calls Tryd.prog 12 #[.int .i64 n] X fun x w' => x = .returned (.string (put2 n)) ∧ Below X.heap.size X w') := fun X => Put16_any n X
    generalize (put2 n : ByteArray) = A at *
    go_enter Tryd.func20, Tryd.ntmps20
    go_wp2_with fail
    refine (HP.out _).mono ?_
    rintro x w1 ⟨rfl, hb⟩
    have HB2 := hide (HB1.out.trans (hb.mono HB1.out.size))
    clear hb
    go_wp2
    go_ret2
    exact ⟨rfl, HB2.out⟩
  by_cases h4 : b = 4
  · have e1 : laidV ⟨b, n, s⟩ = put4 n := by unfold laidV; rw [if_neg h1, if_neg h2, if_pos h4]
    have e2 : laidOk ⟨b, n, s⟩ = true := by unfold laidOk; rw [if_neg h1, if_neg h2, if_pos h4]
    rw [e1, e2]
    clear e1 e2
    subst h4
    have HP : Hid (∀ X, Calls Tryd.prog 13 #[.int .i64 n] X fun x w' => x = .returned (.string (put4 n)) ∧ Below X.heap.size X w') := fun X => Put32_any n X
    generalize (put4 n : ByteArray) = A at *
    go_enter Tryd.func20, Tryd.ntmps20
    go_wp2_with fail
    refine (HP.out _).mono ?_
    rintro x w1 ⟨rfl, hb⟩
    have HB2 := hide (HB1.out.trans (hb.mono HB1.out.size))
    clear hb
    go_wp2
    go_ret2
    exact ⟨rfl, HB2.out⟩
  have e1 : laidV ⟨b, n, s⟩ = ptxV s := by unfold laidV; rw [if_neg h1, if_neg h2, if_neg h4]
  have e2 : laidOk ⟨b, n, s⟩ = decide (ptxE s = 0) := by unfold laidOk; rw [if_neg h1, if_neg h2, if_neg h4]
  rw [e1, e2]
  have HP : Hid (∀ X, U8 X → Calls Tryd.prog 8 #[.string s] X fun x w' => x = .returned (.tuple #[.string (ptxV s), .int .i64 (ptxE s : Int)]) ∧ Below X.heap.size X w') := fun X hX => PutText_any s X hX
  clear e1 e2
  generalize ptxV s = A at *
  generalize ptxE s = E at *
  by_cases hE : E = 0
  · subst hE
    go_enter Tryd.func20, Tryd.ntmps20
    go_wp2_with fail
    refine (HP.out _ HT.out).mono ?_
    rintro x w1 ⟨rfl, hb⟩
    have HB2 := hide (HB1.out.trans (hb.mono HB1.out.size))
    clear hb HT
    go_wp2
    go_ret2
    exact ⟨rfl, HB2.out⟩
  · have hE' : ¬ (E : Int) = 0 := by omega
    have hE2 : decide (E = 0) = false := decide_eq_false hE
    have hE3 : ((E : Int) == 0) = false := beq_eq_false_iff_ne.2 hE'
    rw [hE2]
    go_enter Tryd.func20, Tryd.ntmps20
    go_wp2_with fail
    refine (HP.out _ HT.out).mono ?_
    rintro x w1 ⟨rfl, hb⟩
    have HB2 := hide (HB1.out.trans (hb.mono HB1.out.size))
    clear hb HT
    go_wp2
    go_ret2
    refine ⟨?_, HB2.out⟩
    first | rfl | (show Ending.returned (.tuple #[.string A, .bool ((E : Int) == 0)]) = _; rw [hE3])

section
variable {w : World} {D : Nat} {s : ByteArray} {q : Nat}

set_option maxRecDepth 100000 in
set_option maxHeartbeats 2000000 in
theorem read_any (t : Tng) (hs : s.size ≤ 140737488355328) (h : Cur w D s q 0) (hT : U8 w) (hD : OffT D) (hok : laidOk t = true) (hst : Stands s q (laidV t)) : Calls Tryd.prog 22 #[.pointer (some ⟨D, 0, none⟩), tngV t] w fun x w' => x = .returned (.bool true) ∧ Cur w' D s (q + (laidV t).size) 0 ∧ But D w w' := by
  obtain ⟨b, n, u⟩ := t
  show Calls Tryd.prog 22 #[.pointer (some ⟨D, 0, none⟩), .agg #[.int .i64 b, .int .i64 n, .string u]] w _
  have hqs : q ≤ s.size := by have := hst.1; omega
  have hDl := h.lt
  have HB1 : Hid (Below w.heap.size w (w.alloc (.cells #[.int .i64 b, .int .i64 n, .string u] 38))) := (Below.refl _ _).alloc (Nat.le_refl _) _
  have Q := hide (Blk.new w #[.int .i64 b, .int .i64 n, .string u] 38)
  have c0 := Q.out.cell 0
  have c1 := Q.out.cell 1
  have c2 := Q.out.cell 2
  have HC := hide (h.below HB1.out)
  have HT := hide (hT.below HB1.out)
  have hYl := Q.out.lt
  clear h hT

  by_cases h1 : b = 1
  · have e1 : laidV ⟨b, n, u⟩ = ⟨#[bN n 0]⟩ := by unfold laidV; rw [if_pos h1]
    rw [e1] at hst ⊢
    clear e1
    subst h1
    obtain ⟨r1, r2, r3⟩ := read1 s q n hst
    obtain ⟨q2, hq2⟩ : ∃ q2, q2 = q + 1 := ⟨_, rfl⟩
    have hsz : q + (⟨#[bN n 0]⟩ : ByteArray).size = q2 := by rw [hq2]; rfl
    rw [hsz]
    have GG : ∀ X, Below (w.alloc (.cells #[.int .i64 1, .int .i64 n, .string u] 38)).heap.size (w.alloc (.cells #[.int .i64 1, .int .i64 n, .string u] 38)) X → Calls Tryd.prog 26 #[.pointer (some ⟨D, 0, none⟩)] X fun x w' => x = .returned (.int .i64 (n % 256)) ∧ Cur w' D s q2 0 ∧ But D X w' := by
      intro X hX
      have := Get8_any (by omega) hqs (HC.out.below hX)
      rw [r1, r2, r3, ← hq2] at this
      exact this
    have hm := msk8 n
    have C0 : Hid (∀ X, Hid (Below (w.alloc (.cells #[.int .i64 1, .int .i64 n, .string u] 38)).heap.size (w.alloc (.cells #[.int .i64 1, .int .i64 n, .string u] 38)) X) → Calls Tryd.prog 26 #[.pointer (some ⟨D, 0, none⟩)] X fun x w' => x = .returned (.int .i64 (n % 256)) ∧ Hid (Cur w' D s q2 0 ∧ But D (w.alloc (.cells #[.int .i64 1, .int .i64 n, .string u] 38)) w') ∧ w'.cell? ⟨w.heap.size, 1, none⟩ = some (.int .i64 n)) := by
      intro X bX
      refine (GG X bX.out).mono ?_
      rintro x w' ⟨rfl, hc, hbu⟩
      have bb := (But.of_below bX.out).trans hbu
      exact ⟨rfl, ⟨hc, bb⟩, (bb.cell hYl (by omega)).trans (Q.out.cell 1)⟩
    have b0 := bdrC (w.alloc (.cells #[.int .i64 1, .int .i64 n, .string u] 38))
    have HBW := hide (But.of_below (D := D) HB1.out)
    clear GG HC HT HB1 hYl Q
    clear hst hok r1 r2 r3 hsz hq2 hDl hqs hD
    go_enter Tryd.func22, Tryd.ntmps22
    go_wp2_with fail
    have mk0 : True := trivial
    go_region_held3 (fun w' => w'.cell? ⟨w.heap.size, 1, none⟩ = some (.int .i64 n)) (go_keep) (first
      | (clear mk0; go_at_call 26; refine (C0.out _ b0).mono ?_; rintro x v1 ⟨rfl, P1, z1⟩; have mk1 : True := trivial))
    have P2 := hide (And.intro P1.out.1 (HBW.out.trans P1.out.2))
    clear C0 b0 mk1 P1 HBW
    go_wp2
    go_ret
    exact ⟨rfl, P2.out.1, P2.out.2⟩
  by_cases h2 : b = 2
  · have e1 : laidV ⟨b, n, u⟩ = put2 n := by unfold laidV; rw [if_neg h1, if_pos h2]
    rw [e1] at hst ⊢
    clear e1
    subst h2
    obtain ⟨r1, r2, r3⟩ := read2 s q n hst
    obtain ⟨q2, hq2⟩ : ∃ q2, q2 = q + 2 := ⟨_, rfl⟩
    have hsz : q + (put2 n : ByteArray).size = q2 := by rw [hq2]; rfl
    rw [hsz]
    have GG : ∀ X, Below (w.alloc (.cells #[.int .i64 2, .int .i64 n, .string u] 38)).heap.size (w.alloc (.cells #[.int .i64 2, .int .i64 n, .string u] 38)) X → Calls Tryd.prog 27 #[.pointer (some ⟨D, 0, none⟩)] X fun x w' => x = .returned (.int .i64 (n % 65536)) ∧ Cur w' D s q2 0 ∧ But D X w' := by
      intro X hX
      have := Get16_any (by omega) hqs (HC.out.below hX)
      rw [r1, r2, r3, ← hq2] at this
      exact this
    have hm := msk16 n
    have C0 : Hid (∀ X, Hid (Below (w.alloc (.cells #[.int .i64 2, .int .i64 n, .string u] 38)).heap.size (w.alloc (.cells #[.int .i64 2, .int .i64 n, .string u] 38)) X) → Calls Tryd.prog 27 #[.pointer (some ⟨D, 0, none⟩)] X fun x w' => x = .returned (.int .i64 (n % 65536)) ∧ Hid (Cur w' D s q2 0 ∧ But D (w.alloc (.cells #[.int .i64 2, .int .i64 n, .string u] 38)) w') ∧ w'.cell? ⟨w.heap.size, 1, none⟩ = some (.int .i64 n)) := by
      intro X bX
      refine (GG X bX.out).mono ?_
      rintro x w' ⟨rfl, hc, hbu⟩
      have bb := (But.of_below bX.out).trans hbu
      exact ⟨rfl, ⟨hc, bb⟩, (bb.cell hYl (by omega)).trans (Q.out.cell 1)⟩
    have b0 := bdrC (w.alloc (.cells #[.int .i64 2, .int .i64 n, .string u] 38))
    have HBW := hide (But.of_below (D := D) HB1.out)
    clear GG HC HT HB1 hYl Q
    clear hst hok r1 r2 r3 hsz hq2 hDl hqs hD
    go_enter Tryd.func22, Tryd.ntmps22
    go_wp2_with fail
    have mk0 : True := trivial
    go_region_held3 (fun w' => w'.cell? ⟨w.heap.size, 1, none⟩ = some (.int .i64 n)) (go_keep) (first
      | (clear mk0; go_at_call 27; refine (C0.out _ b0).mono ?_; rintro x v1 ⟨rfl, P1, z1⟩; have mk1 : True := trivial))
    have P2 := hide (And.intro P1.out.1 (HBW.out.trans P1.out.2))
    clear C0 b0 mk1 P1 HBW
    go_wp2
    go_ret
    exact ⟨rfl, P2.out.1, P2.out.2⟩
  by_cases h4 : b = 4
  · have e1 : laidV ⟨b, n, u⟩ = put4 n := by unfold laidV; rw [if_neg h1, if_neg h2, if_pos h4]
    rw [e1] at hst ⊢
    clear e1
    subst h4
    obtain ⟨r1, r2, r3⟩ := read4 s q n hst
    obtain ⟨q2, hq2⟩ : ∃ q2, q2 = q + 4 := ⟨_, rfl⟩
    have hsz : q + (put4 n : ByteArray).size = q2 := by rw [hq2]; rfl
    rw [hsz]
    have GG : ∀ X, Below (w.alloc (.cells #[.int .i64 4, .int .i64 n, .string u] 38)).heap.size (w.alloc (.cells #[.int .i64 4, .int .i64 n, .string u] 38)) X → Calls Tryd.prog 28 #[.pointer (some ⟨D, 0, none⟩)] X fun x w' => x = .returned (.int .i64 (n % 4294967296)) ∧ Cur w' D s q2 0 ∧ But D X w' := by
      intro X hX
      have := Get32_any (by omega) hqs (HC.out.below hX)
      rw [r1, r2, r3, ← hq2] at this
      exact this
    have hm := msk32 n
    have C0 : Hid (∀ X, Hid (Below (w.alloc (.cells #[.int .i64 4, .int .i64 n, .string u] 38)).heap.size (w.alloc (.cells #[.int .i64 4, .int .i64 n, .string u] 38)) X) → Calls Tryd.prog 28 #[.pointer (some ⟨D, 0, none⟩)] X fun x w' => x = .returned (.int .i64 (n % 4294967296)) ∧ Hid (Cur w' D s q2 0 ∧ But D (w.alloc (.cells #[.int .i64 4, .int .i64 n, .string u] 38)) w') ∧ w'.cell? ⟨w.heap.size, 1, none⟩ = some (.int .i64 n)) := by
      intro X bX
      refine (GG X bX.out).mono ?_
      rintro x w' ⟨rfl, hc, hbu⟩
      have bb := (But.of_below bX.out).trans hbu
      exact ⟨rfl, ⟨hc, bb⟩, (bb.cell hYl (by omega)).trans (Q.out.cell 1)⟩
    have b0 := bdrC (w.alloc (.cells #[.int .i64 4, .int .i64 n, .string u] 38))
    have HBW := hide (But.of_below (D := D) HB1.out)
    clear GG HC HT HB1 hYl Q
    clear hst hok r1 r2 r3 hsz hq2 hDl hqs hD
    go_enter Tryd.func22, Tryd.ntmps22
    go_wp2_with fail
    have mk0 : True := trivial
    go_region_held3 (fun w' => w'.cell? ⟨w.heap.size, 1, none⟩ = some (.int .i64 n)) (go_keep) (first
      | (clear mk0; go_at_call 28; refine (C0.out _ b0).mono ?_; rintro x v1 ⟨rfl, P1, z1⟩; have mk1 : True := trivial))
    have P2 := hide (And.intro P1.out.1 (HBW.out.trans P1.out.2))
    clear C0 b0 mk1 P1 HBW
    go_wp2
    go_ret
    exact ⟨rfl, P2.out.1, P2.out.2⟩
  have e1 : laidV ⟨b, n, u⟩ = ptxV u := by unfold laidV; rw [if_neg h1, if_neg h2, if_neg h4]
  have e2 : laidOk ⟨b, n, u⟩ = decide (ptxE u = 0) := by unfold laidOk; rw [if_neg h1, if_neg h2, if_neg h4]
  rw [e1] at hst ⊢
  rw [e2] at hok
  obtain ⟨r1, r2, r3⟩ := readT s q u (of_decide_eq_true hok) hst
  obtain ⟨q2, hq2⟩ : ∃ q2, q2 = q + (ptxV u).size := ⟨_, rfl⟩
  rw [← hq2]
  have GG : ∀ X, Below (w.alloc (.cells #[.int .i64 b, .int .i64 n, .string u] 38)).heap.size (w.alloc (.cells #[.int .i64 b, .int .i64 n, .string u] 38)) X → Calls Tryd.prog 29 #[.pointer (some ⟨D, 0, none⟩), .int .i64 1024] X fun x w' => x = .returned (.string u) ∧ Cur w' D s q2 0 ∧ But D X w' := by
    intro X hX
    have := Text_any 1024 hs hqs (HC.out.below hX) (HT.out.below hX) hD
    rw [r1, r2, r3, ← hq2] at this
    exact this

  have C0 : Hid (∀ X, Hid (Below (w.alloc (.cells #[.int .i64 b, .int .i64 n, .string u] 38)).heap.size (w.alloc (.cells #[.int .i64 b, .int .i64 n, .string u] 38)) X) → Calls Tryd.prog 29 #[.pointer (some ⟨D, 0, none⟩), .int .i64 1024] X fun x w' => x = .returned (.string u) ∧ Hid (Cur w' D s q2 0 ∧ But D (w.alloc (.cells #[.int .i64 b, .int .i64 n, .string u] 38)) w') ∧ w'.cell? ⟨w.heap.size, 2, none⟩ = some (.string u)) := by
    intro X bX
    refine (GG X bX.out).mono ?_
    rintro x w' ⟨rfl, hc, hbu⟩
    have bb := (But.of_below bX.out).trans hbu
    exact ⟨rfl, ⟨hc, bb⟩, (bb.cell hYl (by omega)).trans (Q.out.cell 2)⟩
  have b0 := bdrC (w.alloc (.cells #[.int .i64 b, .int .i64 n, .string u] 38))
  have HBW := hide (But.of_below (D := D) HB1.out)
  clear GG HC HT HB1 hYl Q

  clear e1 e2 hst hok r1 r2 r3 hq2 hDl hqs hD
  go_enter Tryd.func22, Tryd.ntmps22
  go_wp2_with fail
  have mk0 : True := trivial
  go_region_held3 (fun w' => w'.cell? ⟨w.heap.size, 2, none⟩ = some (.string u)) (go_keep) (first
    | (clear mk0; go_at_call 29; refine (C0.out _ b0).mono ?_; rintro x v1 ⟨rfl, P1, z1⟩; have mk1 : True := trivial))
  have P2 := hide (And.intro P1.out.1 (HBW.out.trans P1.out.2))
  clear C0 b0 mk1 P1 HBW
  go_wp2
  go_ret
  exact ⟨rfl, P2.out.1, P2.out.2⟩
end

end Go.Proofs.YthknmkebdlnahaaDoor

namespace Go.Proofs.YthknmkebdlnahaaDoor
open Go.RowKit

def T3 : ByteArray := ⟨#[1, 2, 3]⟩
def Tab_ : ByteArray := ⟨#[97, 98]⟩
def Teu : ByteArray := ⟨#[226, 130, 172]⟩
def T80 : ByteArray := ⟨#[128]⟩
def Ta : ByteArray := ⟨#[97]⟩
theorem fx1 : getV T3 0 0 2 = 258 ∧ getA T3 0 0 2 = 2 ∧ getE T3 0 0 2 = 0 := by decide
theorem fx2 : getV T3 2 0 2 = 0 ∧ getA T3 2 0 2 = 2 ∧ getE T3 2 0 2 = 110 := by decide
theorem fx3 : fltP 2 110 = 2 := by decide
theorem fx4 : ptxE Tab_ = 0 := by decide
theorem fx5 : ptxV Tab_ = ⟨#[0, 2, 97, 98]⟩ := by unfold ptxV; rw [if_pos fx4]; rfl
theorem fx6 : put4 (-1) = ⟨#[255, 255, 255, 255]⟩ := by rfl
theorem fx7 : runeAt Teu 0 = 3 := by decide
theorem fx8 : runesI (bys T80) = -1 := by decide
theorem fx9 : (runesL (bys Ta)).isSome = true := by decide

set_option maxRecDepth 100000 in
set_option maxHeartbeats 2000000 in
theorem fixed_any (w : World) (hT : U8 w) : Calls Tryd.prog 14 #[] w fun e w' => e = .returned (.bool true) ∧ Below w.heap.size w w' := by
  have HT := hide hT
  have hoff := hT.off (Nat.le_refl _)
  clear hT hoff
  have HN := hide (New_any T3 w)
  go_enter Tryd.func14, Tryd.ntmps14
  go_wp2_with fail
  refine HN.out.mono ?_
  rintro e w1 ⟨rfl, hc, hb⟩
  have HB1 := hide hb
  obtain ⟨v1, v2, v3⟩ := fx1
  have HG := hide (Get16_any (by decide) (by decide) hc)
  rw [v1, v2, v3] at HG
  clear hc hb HN v1 v2 v3
  generalize hD : w.heap.size = D at *
  go_wp2_with fail
  refine HG.out.mono ?_
  rintro e w2 ⟨rfl, hc, hb⟩
  have HB2 := hide (But.frame (by rw [hD]; exact HB1.out) hb (by omega))
  obtain ⟨v1, v2, v3⟩ := fx2
  have HG2 := hide (Get16_any (by decide) (by decide) hc)
  rw [v1, v2, v3] at HG2
  clear hc hb HG v1 v2 v3 HB1
  go_wp2_with fail
  refine HG2.out.mono ?_
  rintro e w3 ⟨rfl, hc, hb⟩
  have HB3 := hide (But.frame HB2.out hb (by omega))
  have HA := hide (At_any hc)
  have HF := hide (Fault_any hc)
  rw [fx3] at HF
  clear hc hb HG2 HB2
  go_wp2_with fail
  refine HA.out.mono ?_
  rintro e w4 ⟨rfl, rfl⟩
  clear HA
  go_wp2_with fail
  refine HF.out.mono ?_
  rintro e w4 ⟨rfl, hb⟩
  have HB4 := hide (HB3.out.trans (hb.mono HB3.out.size))
  have HP := hide (PutText_any Tab_ w4 (HT.out.below HB4.out))
  rw [fx4, fx5] at HP
  clear hb HF HB3
  go_wp2_with fail
  refine HP.out.mono ?_
  rintro e w5 ⟨rfl, hb⟩
  have HB5 := hide (HB4.out.trans (hb.mono HB4.out.size))
  have HP := hide (Put32_any (-1) w5)
  rw [fx6] at HP
  clear hb HB4
  go_wp2_with fail
  refine HP.out.mono ?_
  rintro e w6 ⟨rfl, hb⟩
  have HB6 := hide (HB5.out.trans (hb.mono HB5.out.size))
  have HP := hide (Rune_any Teu 0 w6 (HT.out.below HB6.out))
  rw [fx7] at HP
  clear hb HB5
  go_wp2_with fail
  refine HP.out.mono ?_
  rintro e w7 ⟨rfl, hb⟩
  have HB7 := hide (HB6.out.trans (hb.mono HB6.out.size))
  have HP := hide (Runes_any T80 w7 (by decide) (HT.out.below HB7.out))
  rw [fx8] at HP
  clear hb HB6
  go_wp2_with fail
  refine HP.out.mono ?_
  rintro e w8 ⟨rfl, hb⟩
  have HB8 := hide (HB7.out.trans (hb.mono HB7.out.size))
  have HP := hide (Valid_any Ta w8 (by decide) (HT.out.below HB8.out))
  rw [fx9] at HP
  clear hb HB7
  go_wp2_with fail
  refine HP.out.mono ?_
  rintro e w9 ⟨rfl, hb⟩
  have HB9 := hide (HB8.out.trans (hb.mono HB8.out.size))
  clear hb HB8 HP HT
  go_wp2
  go_ret
  exact ⟨rfl, by rw [hD]; first | exact HB9.out | (have h := HB9.out; rw [hD] at h; exact h)⟩

end Go.Proofs.YthknmkebdlnahaaDoor
