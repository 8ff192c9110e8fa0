/-
  What cursor's Get8, Get16 and Get32 do.
  What the reference's Get does: a number out of a text, where a cursor stands.
  What the reference's within, Rune and Runes do.
-/
import Derived.Test.YtihnakblcfealaaGreatDoorEB6
import Derived.Test.YtihnakblcfealaaGreatDoorEB2
namespace Go.Proofs.YtihnakblcfealaaGreatDoor
open Go.RowKit Go.Shelf

theorem But.setNew {D g i : Nat} {a b : World} (h : But D a b) (hg : a.heap.size ≤ g) (v : Value) : But D a (b.setCell ⟨g, i, none⟩ v) := by
  refine ⟨h.os, h.tape, h.output, by simpa [World.setCell] using h.size, fun k hk hn => ?_⟩
  rw [← h.block k hk hn]
  have : g ≠ k := by omega
  simp [World.setCell, Array.getElem?_modify, this]

theorem Blk.one {w : World} {b : Nat} {x : Value} {t : TypeId} (h : Blk w b #[x] t) (v : Value) : Blk (w.setCell ⟨b, 0, none⟩ v) b #[v] t := by
  unfold Blk at *
  simp only [World.setCell, Array.getElem?_modify, if_true, h, Option.map_some]
  rfl

def getV (s : ByteArray) (at_ e k : Nat) : Nat := if e = 0 ∧ at_ + k ≤ s.size then beA (bys s) at_ k else 0
def getA (s : ByteArray) (at_ e k : Nat) : Nat := if e = 0 ∧ at_ + k ≤ s.size then at_ + k else at_
def getE (s : ByteArray) (at_ e k : Nat) : Nat := if e = 0 then (if at_ + k ≤ s.size then 0 else 110) else e

section
variable {w : World} {D : Nat} {s : ByteArray} {at_ e : Nat}

set_option maxHeartbeats 1000000 in
theorem clo1_ok {X : World} (a b : Nat) (hs : s.size ≤ 4611686018427387904) (h : Cur X D s at_ 0) (hn : at_ + 1 ≤ s.size) (ha : Blk X a #[.pointer (some ⟨D, 0, none⟩)] 36) (hb : Blk X b #[.int .i64 0] 3) (hbD : b ≠ D) (hw : But D w X) (hwb : w.heap.size ≤ b) :
    Calls Tryz.prog 48 #[.pointer (some ⟨a, 0, none⟩), .pointer (some ⟨b, 0, none⟩)] X fun x X' => x = .returned (.tuple #[]) ∧ Cur X' D s (at_ + 1) 0 ∧ Blk X' b #[.int .i64 (beA (bys s) at_ 1 : Int)] 3 ∧ But D w X' := by
  have HN := hide (number1_ok hs h hn)
  have ca := ha.cell 0
  have HBB := hide hb
  have HW := hide hw
  clear h ha hb hw hn
  go_enter Tryz.func48, Tryz.ntmps48
  go_wp2_with fail
  refine HN.out.mono ?_
  rintro x w1 ⟨rfl, hc, ht⟩
  have q := ht.blk HBB.out hbD
  have q0 := q.cell 0
  have f0 := q.free 0
  have Q1 := hide (q.one (.int .i64 (beA (bys s) at_ 1 : Int)))
  have HC := hide hc
  have HT := hide ht
  clear hc ht q
  go_wp2
  simp [bodyPost, results, Tryz.results48, go_sem]
  exact ⟨Blk.other HC.out (a := ⟨b, 0, none⟩) hbD _, Q1.out, (HW.out.trans HT.out).setNew hwb _⟩

set_option maxHeartbeats 1000000 in
theorem clo1_no {X : World} (a b : Nat) (hs : s.size ≤ 4611686018427387904) (h : Cur X D s at_ 0) (ha' : at_ ≤ s.size) (hn : s.size < at_ + 1) (ha : Blk X a #[.pointer (some ⟨D, 0, none⟩)] 36) :
    Calls Tryz.prog 48 #[.pointer (some ⟨a, 0, none⟩), .pointer (some ⟨b, 0, none⟩)] X fun x X' => Pan 110 x ∧ (∃ k, Cur X' D s k 0) ∧ But D X X' := by
  have HN := hide (number1_no hs ha' h hn)
  have ca := ha.cell 0
  have HC := hide h
  clear h ha hn ha'
  go_enter Tryz.func48, Tryz.ntmps48
  go_wp2_with fail
  refine HN.out.mono ?_
  rintro x w1 ⟨rfl, hb⟩
  have HB := hide hb
  clear hb
  go_wp2
  exact ⟨rfl, rfl, ⟨at_, HC.out.below HB.out⟩, But.of_below HB.out⟩

set_option maxHeartbeats 1000000 in
theorem Get8_any (hs : s.size ≤ 4611686018427387904) (ha : at_ ≤ s.size) (h : Cur w D s at_ e) : Calls Tryz.prog 23 #[.pointer (some ⟨D, 0, none⟩)] w fun x w' => x = .returned (.int .i64 (getV s at_ e 1 : Int)) ∧ Cur w' D s (getA s at_ e 1) (getE s at_ e 1) ∧ But D w w' := by
  have hmf : ∀ (fn : Fn) (first cap : Array Value) (w : World), (Instr.makeFunc fn first cap).run Tryz.prog w = .ok (.func fn first cap) w := fun _ _ _ _ => rfl
  have hDl := h.lt
  have HB2 : Hid (Below w.heap.size w ((w.alloc (.cells #[.pointer (some ⟨D, 0, none⟩)] 36)).alloc (.cells #[.int .i64 0] 3))) := ((Below.refl _ _).alloc (Nat.le_refl _) _).alloc ((Below.refl _ _).alloc (Nat.le_refl _) _).size _
  have HC := hide (h.below HB2.out)
  have K1 : Hid (Blk ((w.alloc (.cells #[.pointer (some ⟨D, 0, none⟩)] 36)).alloc (.cells #[.int .i64 0] 3)) w.heap.size #[.pointer (some ⟨D, 0, none⟩)] 36) := (Blk.new _ _ _).alloc _
  have K2 : Hid (Blk ((w.alloc (.cells #[.pointer (some ⟨D, 0, none⟩)] 36)).alloc (.cells #[.int .i64 0] 3)) (w.heap.size + 1) #[.int .i64 0] 3) := Blk.newAt _ _ (by simp) _ _
  have hz1 : w.heap.size < ((w.alloc (.cells #[.pointer (some ⟨D, 0, none⟩)] 36)).alloc (.cells #[.int .i64 0] 3)).heap.size := K1.out.lt
  have hz2 : w.heap.size + 1 < ((w.alloc (.cells #[.pointer (some ⟨D, 0, none⟩)] 36)).alloc (.cells #[.int .i64 0] 3)).heap.size := K2.out.lt
  have hent : ∀ args w, (callFunc 48 args).run Tryz.prog w = .ok (.enter 48 args) w := enters_of Tryz.func48 (by kernel_rfl) rfl
  clear h
  by_cases h0 : e = 0
  · subst h0
    by_cases hn : at_ + 1 ≤ s.size
    · have e1 : getV s at_ 0 1 = beA (bys s) at_ 1 := by unfold getV; rw [if_pos ⟨rfl, hn⟩]
      have e2 : getA s at_ 0 1 = at_ + 1 := by unfold getA; rw [if_pos ⟨rfl, hn⟩]
      have e3 : getE s at_ 0 1 = 0 := by unfold getE; rw [if_pos rfl, if_pos hn]
      rw [e1, e2, e3]
      have HA := hide (attempt_ok 48 #[.pointer (some ⟨w.heap.size, 0, none⟩), .pointer (some ⟨w.heap.size + 1, 0, none⟩)] (fun _ X' => Cur X' D s (at_ + 1) 0 ∧ Blk X' (w.heap.size + 1) #[.int .i64 (beA (bys s) at_ 1 : Int)] 3 ∧ But D w X') HC.out hent
        (fun X hX => clo1_ok w.heap.size (w.heap.size + 1) hs (HC.out.below hX) hn (K1.out.below hX hz1) (K2.out.below hX hz2) (by omega) ((But.of_below HB2.out).trans (But.of_below hX)) (by omega)))
      clear e1 e2 e3 hent HC K1 K2
      go_enter Tryz.func23, Tryz.ntmps23
      go_wp2_with fail
      refine HA.out.mono ?_
      rintro x w1 ⟨rfl, X, hX, hc, hq, hb⟩
      have q0 := hq.cell 0
      have f0 := hq.free 0
      have Q1 := hide (hq.one (.int .i64 (beA (bys s) at_ 1 : Int)))
      have r0 := Q1.out.cell 0
      have HCC := hide hc
      have HBB := hide hb
      clear hc hq hb hX HA
      go_wp2
      simp [bodyPost, results, Tryz.results23, go_sem, r0]
      exact ⟨Blk.other HCC.out (a := ⟨w.heap.size + 1, 0, none⟩) (by show w.heap.size + 1 ≠ D; omega) _, HBB.out.setNew (by omega) _⟩
    · have e1 : getV s at_ 0 1 = 0 := by unfold getV; rw [if_neg (by omega)]
      have e2 : getA s at_ 0 1 = at_ := by unfold getA; rw [if_neg (by omega)]
      have e3 : getE s at_ 0 1 = 110 := by unfold getE; rw [if_pos rfl, if_neg hn]
      rw [e1, e2, e3]
      have HA := hide (attempt_no 48 #[.pointer (some ⟨w.heap.size, 0, none⟩), .pointer (some ⟨w.heap.size + 1, 0, none⟩)] 110 HC.out hent
        (fun X hX => clo1_no w.heap.size (w.heap.size + 1) hs (HC.out.below hX) ha (by omega) (K1.out.below hX hz1)))
      clear e1 e2 e3 hent HC K1
      go_enter Tryz.func23, Tryz.ntmps23
      go_wp2_with fail
      refine HA.out.mono ?_
      rintro x w1 ⟨rfl, hc, hb⟩
      have hq := hb.blk K2.out (by omega)
      have q0 := hq.cell 0
      have f0 := hq.free 0
      have Q1 := hide (hq.one (.int .i64 0))
      have r0 := Q1.out.cell 0
      have HCC := hide hc
      have HBB := hide ((But.of_below HB2.out).trans hb)
      clear hc hq hb HA K2
      go_wp2
      simp [bodyPost, results, Tryz.results23, go_sem, r0]
      exact ⟨Blk.other HCC.out (a := ⟨w.heap.size + 1, 0, none⟩) (by show w.heap.size + 1 ≠ D; omega) _, HBB.out.setNew (by omega) _⟩
  · have e1 : getV s at_ e 1 = 0 := by unfold getV; rw [if_neg (by omega)]
    have e2 : getA s at_ e 1 = at_ := by unfold getA; rw [if_neg (by omega)]
    have e3 : getE s at_ e 1 = e := by unfold getE; rw [if_neg h0]
    rw [e1, e2, e3]
    have HA := hide (attempt_idle (.func (.func 48) #[] #[.pointer (some ⟨w.heap.size, 0, none⟩), .pointer (some ⟨w.heap.size + 1, 0, none⟩)]) HC.out h0)
    clear e1 e2 e3 hent K1
    go_enter Tryz.func23, Tryz.ntmps23
    go_wp2_with fail
    refine HA.out.mono ?_
    rintro x w1 ⟨rfl, hb⟩
    have hq := K2.out.below hb hz2
    have q0 := hq.cell 0
    have f0 := hq.free 0
    have Q1 := hide (hq.one (.int .i64 0))
    have r0 := Q1.out.cell 0
    have HCC := hide (HC.out.below hb)
    have HBB := hide ((But.of_below (D := D) HB2.out).trans (But.of_below hb))
    clear hq hb HA K2 HC
    go_wp2
    simp [bodyPost, results, Tryz.results23, go_sem, r0]
    exact ⟨Blk.other HCC.out (a := ⟨w.heap.size + 1, 0, none⟩) (by show w.heap.size + 1 ≠ D; omega) _, HBB.out.setNew (by omega) _⟩

set_option maxHeartbeats 1000000 in
theorem clo2_ok {X : World} (a b : Nat) (hs : s.size ≤ 4611686018427387904) (h : Cur X D s at_ 0) (hn : at_ + 2 ≤ s.size) (ha : Blk X a #[.pointer (some ⟨D, 0, none⟩)] 36) (hb : Blk X b #[.int .i64 0] 3) (hbD : b ≠ D) (hw : But D w X) (hwb : w.heap.size ≤ b) :
    Calls Tryz.prog 45 #[.pointer (some ⟨a, 0, none⟩), .pointer (some ⟨b, 0, none⟩)] X fun x X' => x = .returned (.tuple #[]) ∧ Cur X' D s (at_ + 2) 0 ∧ Blk X' b #[.int .i64 (beA (bys s) at_ 2 : Int)] 3 ∧ But D w X' := by
  have HN := hide (number2_ok hs h hn)
  have ca := ha.cell 0
  have HBB := hide hb
  have HW := hide hw
  clear h ha hb hw hn
  go_enter Tryz.func45, Tryz.ntmps45
  go_wp2_with fail
  refine HN.out.mono ?_
  rintro x w1 ⟨rfl, hc, ht⟩
  have q := ht.blk HBB.out hbD
  have q0 := q.cell 0
  have f0 := q.free 0
  have Q1 := hide (q.one (.int .i64 (beA (bys s) at_ 2 : Int)))
  have HC := hide hc
  have HT := hide ht
  clear hc ht q
  go_wp2
  simp [bodyPost, results, Tryz.results45, go_sem]
  exact ⟨Blk.other HC.out (a := ⟨b, 0, none⟩) hbD _, Q1.out, (HW.out.trans HT.out).setNew hwb _⟩

set_option maxHeartbeats 1000000 in
theorem clo2_no {X : World} (a b : Nat) (hs : s.size ≤ 4611686018427387904) (h : Cur X D s at_ 0) (ha' : at_ ≤ s.size) (hn : s.size < at_ + 2) (ha : Blk X a #[.pointer (some ⟨D, 0, none⟩)] 36) :
    Calls Tryz.prog 45 #[.pointer (some ⟨a, 0, none⟩), .pointer (some ⟨b, 0, none⟩)] X fun x X' => Pan 110 x ∧ (∃ k, Cur X' D s k 0) ∧ But D X X' := by
  have HN := hide (number2_no hs ha' h hn)
  have ca := ha.cell 0
  have HC := hide h
  clear h ha hn ha'
  go_enter Tryz.func45, Tryz.ntmps45
  go_wp2_with fail
  refine HN.out.mono ?_
  rintro x w1 ⟨rfl, hb⟩
  have HB := hide hb
  clear hb
  go_wp2
  exact ⟨rfl, rfl, ⟨at_, HC.out.below HB.out⟩, But.of_below HB.out⟩

set_option maxHeartbeats 1000000 in
theorem Get16_any (hs : s.size ≤ 4611686018427387904) (ha : at_ ≤ s.size) (h : Cur w D s at_ e) : Calls Tryz.prog 20 #[.pointer (some ⟨D, 0, none⟩)] w fun x w' => x = .returned (.int .i64 (getV s at_ e 2 : Int)) ∧ Cur w' D s (getA s at_ e 2) (getE s at_ e 2) ∧ But D w w' := by
  have hmf : ∀ (fn : Fn) (first cap : Array Value) (w : World), (Instr.makeFunc fn first cap).run Tryz.prog w = .ok (.func fn first cap) w := fun _ _ _ _ => rfl
  have hDl := h.lt
  have HB2 : Hid (Below w.heap.size w ((w.alloc (.cells #[.pointer (some ⟨D, 0, none⟩)] 36)).alloc (.cells #[.int .i64 0] 3))) := ((Below.refl _ _).alloc (Nat.le_refl _) _).alloc ((Below.refl _ _).alloc (Nat.le_refl _) _).size _
  have HC := hide (h.below HB2.out)
  have K1 : Hid (Blk ((w.alloc (.cells #[.pointer (some ⟨D, 0, none⟩)] 36)).alloc (.cells #[.int .i64 0] 3)) w.heap.size #[.pointer (some ⟨D, 0, none⟩)] 36) := (Blk.new _ _ _).alloc _
  have K2 : Hid (Blk ((w.alloc (.cells #[.pointer (some ⟨D, 0, none⟩)] 36)).alloc (.cells #[.int .i64 0] 3)) (w.heap.size + 1) #[.int .i64 0] 3) := Blk.newAt _ _ (by simp) _ _
  have hz1 : w.heap.size < ((w.alloc (.cells #[.pointer (some ⟨D, 0, none⟩)] 36)).alloc (.cells #[.int .i64 0] 3)).heap.size := K1.out.lt
  have hz2 : w.heap.size + 1 < ((w.alloc (.cells #[.pointer (some ⟨D, 0, none⟩)] 36)).alloc (.cells #[.int .i64 0] 3)).heap.size := K2.out.lt
  have hent : ∀ args w, (callFunc 45 args).run Tryz.prog w = .ok (.enter 45 args) w := enters_of Tryz.func45 (by kernel_rfl) rfl
  clear h
  by_cases h0 : e = 0
  · subst h0
    by_cases hn : at_ + 2 ≤ s.size
    · have e1 : getV s at_ 0 2 = beA (bys s) at_ 2 := by unfold getV; rw [if_pos ⟨rfl, hn⟩]
      have e2 : getA s at_ 0 2 = at_ + 2 := by unfold getA; rw [if_pos ⟨rfl, hn⟩]
      have e3 : getE s at_ 0 2 = 0 := by unfold getE; rw [if_pos rfl, if_pos hn]
      rw [e1, e2, e3]
      have HA := hide (attempt_ok 45 #[.pointer (some ⟨w.heap.size, 0, none⟩), .pointer (some ⟨w.heap.size + 1, 0, none⟩)] (fun _ X' => Cur X' D s (at_ + 2) 0 ∧ Blk X' (w.heap.size + 1) #[.int .i64 (beA (bys s) at_ 2 : Int)] 3 ∧ But D w X') HC.out hent
        (fun X hX => clo2_ok w.heap.size (w.heap.size + 1) hs (HC.out.below hX) hn (K1.out.below hX hz1) (K2.out.below hX hz2) (by omega) ((But.of_below HB2.out).trans (But.of_below hX)) (by omega)))
      clear e1 e2 e3 hent HC K1 K2
      go_enter Tryz.func20, Tryz.ntmps20
      go_wp2_with fail
      refine HA.out.mono ?_
      rintro x w1 ⟨rfl, X, hX, hc, hq, hb⟩
      have q0 := hq.cell 0
      have f0 := hq.free 0
      have Q1 := hide (hq.one (.int .i64 (beA (bys s) at_ 2 : Int)))
      have r0 := Q1.out.cell 0
      have HCC := hide hc
      have HBB := hide hb
      clear hc hq hb hX HA
      go_wp2
      simp [bodyPost, results, Tryz.results20, go_sem, r0]
      exact ⟨Blk.other HCC.out (a := ⟨w.heap.size + 1, 0, none⟩) (by show w.heap.size + 1 ≠ D; omega) _, HBB.out.setNew (by omega) _⟩
    · have e1 : getV s at_ 0 2 = 0 := by unfold getV; rw [if_neg (by omega)]
      have e2 : getA s at_ 0 2 = at_ := by unfold getA; rw [if_neg (by omega)]
      have e3 : getE s at_ 0 2 = 110 := by unfold getE; rw [if_pos rfl, if_neg hn]
      rw [e1, e2, e3]
      have HA := hide (attempt_no 45 #[.pointer (some ⟨w.heap.size, 0, none⟩), .pointer (some ⟨w.heap.size + 1, 0, none⟩)] 110 HC.out hent
        (fun X hX => clo2_no w.heap.size (w.heap.size + 1) hs (HC.out.below hX) ha (by omega) (K1.out.below hX hz1)))
      clear e1 e2 e3 hent HC K1
      go_enter Tryz.func20, Tryz.ntmps20
      go_wp2_with fail
      refine HA.out.mono ?_
      rintro x w1 ⟨rfl, hc, hb⟩
      have hq := hb.blk K2.out (by omega)
      have q0 := hq.cell 0
      have f0 := hq.free 0
      have Q1 := hide (hq.one (.int .i64 0))
      have r0 := Q1.out.cell 0
      have HCC := hide hc
      have HBB := hide ((But.of_below HB2.out).trans hb)
      clear hc hq hb HA K2
      go_wp2
      simp [bodyPost, results, Tryz.results20, go_sem, r0]
      exact ⟨Blk.other HCC.out (a := ⟨w.heap.size + 1, 0, none⟩) (by show w.heap.size + 1 ≠ D; omega) _, HBB.out.setNew (by omega) _⟩
  · have e1 : getV s at_ e 2 = 0 := by unfold getV; rw [if_neg (by omega)]
    have e2 : getA s at_ e 2 = at_ := by unfold getA; rw [if_neg (by omega)]
    have e3 : getE s at_ e 2 = e := by unfold getE; rw [if_neg h0]
    rw [e1, e2, e3]
    have HA := hide (attempt_idle (.func (.func 45) #[] #[.pointer (some ⟨w.heap.size, 0, none⟩), .pointer (some ⟨w.heap.size + 1, 0, none⟩)]) HC.out h0)
    clear e1 e2 e3 hent K1
    go_enter Tryz.func20, Tryz.ntmps20
    go_wp2_with fail
    refine HA.out.mono ?_
    rintro x w1 ⟨rfl, hb⟩
    have hq := K2.out.below hb hz2
    have q0 := hq.cell 0
    have f0 := hq.free 0
    have Q1 := hide (hq.one (.int .i64 0))
    have r0 := Q1.out.cell 0
    have HCC := hide (HC.out.below hb)
    have HBB := hide ((But.of_below (D := D) HB2.out).trans (But.of_below hb))
    clear hq hb HA K2 HC
    go_wp2
    simp [bodyPost, results, Tryz.results20, go_sem, r0]
    exact ⟨Blk.other HCC.out (a := ⟨w.heap.size + 1, 0, none⟩) (by show w.heap.size + 1 ≠ D; omega) _, HBB.out.setNew (by omega) _⟩

set_option maxHeartbeats 1000000 in
theorem clo4_ok {X : World} (a b : Nat) (hs : s.size ≤ 4611686018427387904) (h : Cur X D s at_ 0) (hn : at_ + 4 ≤ s.size) (ha : Blk X a #[.pointer (some ⟨D, 0, none⟩)] 36) (hb : Blk X b #[.int .i64 0] 3) (hbD : b ≠ D) (hw : But D w X) (hwb : w.heap.size ≤ b) :
    Calls Tryz.prog 91 #[.pointer (some ⟨a, 0, none⟩), .pointer (some ⟨b, 0, none⟩)] X fun x X' => x = .returned (.tuple #[]) ∧ Cur X' D s (at_ + 4) 0 ∧ Blk X' b #[.int .i64 (beA (bys s) at_ 4 : Int)] 3 ∧ But D w X' := by
  have HN := hide (number4_ok hs h hn)
  have ca := ha.cell 0
  have HBB := hide hb
  have HW := hide hw
  clear h ha hb hw hn
  go_enter Tryz.func91, Tryz.ntmps91
  go_wp2_with fail
  refine HN.out.mono ?_
  rintro x w1 ⟨rfl, hc, ht⟩
  have q := ht.blk HBB.out hbD
  have q0 := q.cell 0
  have f0 := q.free 0
  have Q1 := hide (q.one (.int .i64 (beA (bys s) at_ 4 : Int)))
  have HC := hide hc
  have HT := hide ht
  clear hc ht q
  go_wp2
  simp [bodyPost, results, Tryz.results91, go_sem]
  exact ⟨Blk.other HC.out (a := ⟨b, 0, none⟩) hbD _, Q1.out, (HW.out.trans HT.out).setNew hwb _⟩

set_option maxHeartbeats 1000000 in
theorem clo4_no {X : World} (a b : Nat) (hs : s.size ≤ 4611686018427387904) (h : Cur X D s at_ 0) (ha' : at_ ≤ s.size) (hn : s.size < at_ + 4) (ha : Blk X a #[.pointer (some ⟨D, 0, none⟩)] 36) :
    Calls Tryz.prog 91 #[.pointer (some ⟨a, 0, none⟩), .pointer (some ⟨b, 0, none⟩)] X fun x X' => Pan 110 x ∧ (∃ k, Cur X' D s k 0) ∧ But D X X' := by
  have HN := hide (number4_no hs ha' h hn)
  have ca := ha.cell 0
  have HC := hide h
  clear h ha hn ha'
  go_enter Tryz.func91, Tryz.ntmps91
  go_wp2_with fail
  refine HN.out.mono ?_
  rintro x w1 ⟨rfl, hb⟩
  have HB := hide hb
  clear hb
  go_wp2
  exact ⟨rfl, rfl, ⟨at_, HC.out.below HB.out⟩, But.of_below HB.out⟩

set_option maxHeartbeats 1000000 in
theorem Get32_any (hs : s.size ≤ 4611686018427387904) (ha : at_ ≤ s.size) (h : Cur w D s at_ e) : Calls Tryz.prog 76 #[.pointer (some ⟨D, 0, none⟩)] w fun x w' => x = .returned (.int .i64 (getV s at_ e 4 : Int)) ∧ Cur w' D s (getA s at_ e 4) (getE s at_ e 4) ∧ But D w w' := by
  have hmf : ∀ (fn : Fn) (first cap : Array Value) (w : World), (Instr.makeFunc fn first cap).run Tryz.prog w = .ok (.func fn first cap) w := fun _ _ _ _ => rfl
  have hDl := h.lt
  have HB2 : Hid (Below w.heap.size w ((w.alloc (.cells #[.pointer (some ⟨D, 0, none⟩)] 36)).alloc (.cells #[.int .i64 0] 3))) := ((Below.refl _ _).alloc (Nat.le_refl _) _).alloc ((Below.refl _ _).alloc (Nat.le_refl _) _).size _
  have HC := hide (h.below HB2.out)
  have K1 : Hid (Blk ((w.alloc (.cells #[.pointer (some ⟨D, 0, none⟩)] 36)).alloc (.cells #[.int .i64 0] 3)) w.heap.size #[.pointer (some ⟨D, 0, none⟩)] 36) := (Blk.new _ _ _).alloc _
  have K2 : Hid (Blk ((w.alloc (.cells #[.pointer (some ⟨D, 0, none⟩)] 36)).alloc (.cells #[.int .i64 0] 3)) (w.heap.size + 1) #[.int .i64 0] 3) := Blk.newAt _ _ (by simp) _ _
  have hz1 : w.heap.size < ((w.alloc (.cells #[.pointer (some ⟨D, 0, none⟩)] 36)).alloc (.cells #[.int .i64 0] 3)).heap.size := K1.out.lt
  have hz2 : w.heap.size + 1 < ((w.alloc (.cells #[.pointer (some ⟨D, 0, none⟩)] 36)).alloc (.cells #[.int .i64 0] 3)).heap.size := K2.out.lt
  have hent : ∀ args w, (callFunc 91 args).run Tryz.prog w = .ok (.enter 91 args) w := enters_of Tryz.func91 (by kernel_rfl) rfl
  clear h
  by_cases h0 : e = 0
  · subst h0
    by_cases hn : at_ + 4 ≤ s.size
    · have e1 : getV s at_ 0 4 = beA (bys s) at_ 4 := by unfold getV; rw [if_pos ⟨rfl, hn⟩]
      have e2 : getA s at_ 0 4 = at_ + 4 := by unfold getA; rw [if_pos ⟨rfl, hn⟩]
      have e3 : getE s at_ 0 4 = 0 := by unfold getE; rw [if_pos rfl, if_pos hn]
      rw [e1, e2, e3]
      have HA := hide (attempt_ok 91 #[.pointer (some ⟨w.heap.size, 0, none⟩), .pointer (some ⟨w.heap.size + 1, 0, none⟩)] (fun _ X' => Cur X' D s (at_ + 4) 0 ∧ Blk X' (w.heap.size + 1) #[.int .i64 (beA (bys s) at_ 4 : Int)] 3 ∧ But D w X') HC.out hent
        (fun X hX => clo4_ok w.heap.size (w.heap.size + 1) hs (HC.out.below hX) hn (K1.out.below hX hz1) (K2.out.below hX hz2) (by omega) ((But.of_below HB2.out).trans (But.of_below hX)) (by omega)))
      clear e1 e2 e3 hent HC K1 K2
      go_enter Tryz.func76, Tryz.ntmps76
      go_wp2_with fail
      refine HA.out.mono ?_
      rintro x w1 ⟨rfl, X, hX, hc, hq, hb⟩
      have q0 := hq.cell 0
      have f0 := hq.free 0
      have Q1 := hide (hq.one (.int .i64 (beA (bys s) at_ 4 : Int)))
      have r0 := Q1.out.cell 0
      have HCC := hide hc
      have HBB := hide hb
      clear hc hq hb hX HA
      go_wp2
      simp [bodyPost, results, Tryz.results76, go_sem, r0]
      exact ⟨Blk.other HCC.out (a := ⟨w.heap.size + 1, 0, none⟩) (by show w.heap.size + 1 ≠ D; omega) _, HBB.out.setNew (by omega) _⟩
    · have e1 : getV s at_ 0 4 = 0 := by unfold getV; rw [if_neg (by omega)]
      have e2 : getA s at_ 0 4 = at_ := by unfold getA; rw [if_neg (by omega)]
      have e3 : getE s at_ 0 4 = 110 := by unfold getE; rw [if_pos rfl, if_neg hn]
      rw [e1, e2, e3]
      have HA := hide (attempt_no 91 #[.pointer (some ⟨w.heap.size, 0, none⟩), .pointer (some ⟨w.heap.size + 1, 0, none⟩)] 110 HC.out hent
        (fun X hX => clo4_no w.heap.size (w.heap.size + 1) hs (HC.out.below hX) ha (by omega) (K1.out.below hX hz1)))
      clear e1 e2 e3 hent HC K1
      go_enter Tryz.func76, Tryz.ntmps76
      go_wp2_with fail
      refine HA.out.mono ?_
      rintro x w1 ⟨rfl, hc, hb⟩
      have hq := hb.blk K2.out (by omega)
      have q0 := hq.cell 0
      have f0 := hq.free 0
      have Q1 := hide (hq.one (.int .i64 0))
      have r0 := Q1.out.cell 0
      have HCC := hide hc
      have HBB := hide ((But.of_below HB2.out).trans hb)
      clear hc hq hb HA K2
      go_wp2
      simp [bodyPost, results, Tryz.results76, go_sem, r0]
      exact ⟨Blk.other HCC.out (a := ⟨w.heap.size + 1, 0, none⟩) (by show w.heap.size + 1 ≠ D; omega) _, HBB.out.setNew (by omega) _⟩
  · have e1 : getV s at_ e 4 = 0 := by unfold getV; rw [if_neg (by omega)]
    have e2 : getA s at_ e 4 = at_ := by unfold getA; rw [if_neg (by omega)]
    have e3 : getE s at_ e 4 = e := by unfold getE; rw [if_neg h0]
    rw [e1, e2, e3]
    have HA := hide (attempt_idle (.func (.func 91) #[] #[.pointer (some ⟨w.heap.size, 0, none⟩), .pointer (some ⟨w.heap.size + 1, 0, none⟩)]) HC.out h0)
    clear e1 e2 e3 hent K1
    go_enter Tryz.func76, Tryz.ntmps76
    go_wp2_with fail
    refine HA.out.mono ?_
    rintro x w1 ⟨rfl, hb⟩
    have hq := K2.out.below hb hz2
    have q0 := hq.cell 0
    have f0 := hq.free 0
    have Q1 := hide (hq.one (.int .i64 0))
    have r0 := Q1.out.cell 0
    have HCC := hide (HC.out.below hb)
    have HBB := hide ((But.of_below (D := D) HB2.out).trans (But.of_below hb))
    clear hq hb HA K2 HC
    go_wp2
    simp [bodyPost, results, Tryz.results76, go_sem, r0]
    exact ⟨Blk.other HCC.out (a := ⟨w.heap.size + 1, 0, none⟩) (by show w.heap.size + 1 ≠ D; omega) _, HBB.out.setNew (by omega) _⟩

end

end Go.Proofs.YtihnakblcfealaaGreatDoor

namespace Go.Proofs.YtihnakblcfealaaGreatDoor
open Go.RowKit

def CuR (w : World) (D : Nat) (s : ByteArray) (p e : Nat) : Prop := Blk w D #[.string s, .int .i64 (p : Int), .int .i64 (e : Int)] 46

theorem CuR.fault {w : World} {D : Nat} {s : ByteArray} {p e : Nat} (h : CuR w D s p e) (f : Nat) : CuR (w.setCell ⟨D, 2, none⟩ (.int .i64 (f : Int))) D s p f := by
  unfold CuR Blk at *
  simp only [World.setCell, Array.getElem?_modify, if_true, h, Option.map_some]
  rfl
theorem CuR.move {w : World} {D : Nat} {s : ByteArray} {p e : Nat} (h : CuR w D s p e) (q : Nat) : CuR (w.setCell ⟨D, 1, none⟩ (.int .i64 (q : Int))) D s q e := by
  unfold CuR Blk at *
  simp only [World.setCell, Array.getElem?_modify, if_true, h, Option.map_some]
  rfl

set_option maxRecDepth 100000 in
set_option maxHeartbeats 4000000 in
theorem rGet_any {w : World} {D : Nat} {s : ByteArray} {p e : Nat} (k : Nat) (hs : s.size ≤ 140737488355328) (hp : p ≤ s.size) (hk : k ≤ 4) (h : CuR w D s p e) :
    Calls Tryz.prog 11 #[.pointer (some ⟨D, 0, none⟩), .int .i64 (k : Int)] w fun x w' => x = .returned (.int .i64 (getV s p e k : Int)) ∧ CuR w' D s (getA s p e k) (getE s p e k) ∧ But D w w' := by
  have c0 := Blk.cell h 0
  have c1 := Blk.cell h 1
  have c2 := Blk.cell h 2
  have f1 := Blk.free h 1
  have f2 := Blk.free h 2
  have HB := hide h
  clear h
  by_cases he : e = 0
  · subst he
    by_cases hn : p + k ≤ s.size
    · have EV : getV s p 0 k = beA (bys s) p k := by unfold getV; rw [if_pos ⟨rfl, hn⟩]
      have EA : getA s p 0 k = p + k := by unfold getA; rw [if_pos ⟨rfl, hn⟩]
      have EE : getE s p 0 k = 0 := by unfold getE; rw [if_pos rfl, if_pos hn]
      rw [EV, EA, EE]
      clear EV EA EE
      have HLT : Hid (∀ i, i < k → beA (bys s) p i < 16777216) := hide (fun i hi => Nat.lt_of_lt_of_le (beA_lt _ _ i) (by have : i = 0 ∨ i = 1 ∨ i = 2 ∨ i = 3 := (by omega); rcases this with rfl | rfl | rfl | rfl <;> decide))
      have HG : Hid (∀ i (q : i < s.size), s[i].toNat = byt (bys s) i) := hide (fun i q => byt_get s i q)
      go_enter Tryz.func11, Tryz.ntmps11
      go_wp2_with fail
      go_region
      clear c0 c1 c2 f1 f2
      go_wp2_with fail
      go_loopw [5, 6] (fun x y wr => ∃ i : Nat, i ≤ k ∧ x = .int .i64 (beA (bys s) p i : Int) ∧ y = .int .i64 (i : Int) ∧ Hid (Below w.heap.size w wr)) (fun _ y _ => k - (intOf y).toNat)
      case atStart => exact ⟨0, Nat.zero_le _, rfl, rfl, hide (Below.refl _ _).drew⟩
      case round =>
        obtain ⟨i, hik, rfl, rfl, HW⟩ := hrel
        have HX := hide (Blk.below HB.out HW.out (Blk.lt HB.out))
        have c0 := Blk.cell HX.out 0
        have c1 := Blk.cell HX.out 1
        have c2 := Blk.cell HX.out 2
        have f1 := Blk.free HX.out 1
        by_cases hlt : i < k
        · obtain ⟨q, hq⟩ : ∃ q, q = p + i := ⟨_, rfl⟩
          have hi : q < s.size := by omega
          have hi' : (q : Int) < (s.size : Int) := by omega
          have hw1 : IntKind.i64.wrap ((p : Int) + (i : Int)) = (q : Int) := by rw [wrap_small _ (by omega) (by omega)]; omega
          have b1 := HG.out q hi
          obtain ⟨c, hc⟩ : ∃ c, c = byt (bys s) q := ⟨_, rfl⟩
          have hb := byt_lt (bys s) q
          rw [← hc] at b1 hb
          obtain ⟨N, hN⟩ : ∃ N, N = beA (bys s) p i := ⟨_, rfl⟩
          have hNl := HLT.out i hlt
          rw [← hN] at hNl ⊢
          have HE : Hid (((N * 256 + c : Nat) : Int) = (beA (bys s) p (i + 1) : Int)) := hide (by rw [hN, hc, beA, ← hq])
          clear hc hN hq
          have hlt' : (i : Int) < (k : Int) := by omega
          go_wp2_with fail
          go_region
          go_wp2
          exact ⟨⟨i + 1, by omega, by rw [← HE.out]; go_num, by go_num, hide HW.out.drew⟩, by simp [intOf]; omega⟩
        · obtain rfl : i = k := by omega
          have hlt' : ¬ (i : Int) < (i : Int) := by omega
          clear hlt
          go_wp2
          go_ret
          exact ⟨rfl, CuR.move HX.out _, ((But.of_below HW.out).set _ _)⟩
    · have EV : getV s p 0 k = 0 := by unfold getV; rw [if_neg (fun q => hn q.2)]
      have EA : getA s p 0 k = p := by unfold getA; rw [if_neg (fun q => hn q.2)]
      have EE : getE s p 0 k = 110 := by unfold getE; rw [if_pos rfl, if_neg hn]
      rw [EV, EA, EE]
      clear EV EA EE
      go_enter Tryz.func11, Tryz.ntmps11
      go_wp2_with fail
      go_region
      go_wp2
      go_ret
      exact ⟨rfl, HB.out.fault 110, ((But.refl D w).set _ _).trans (But.of_below (Below.refl _ _).drew)⟩
  · have EV : getV s p e k = 0 := by unfold getV; rw [if_neg (fun q => he q.1)]
    have EA : getA s p e k = p := by unfold getA; rw [if_neg (fun q => he q.1)]
    have EE : getE s p e k = e := by unfold getE; rw [if_neg he]
    rw [EV, EA, EE]
    clear EV EA EE
    have he' : ¬ (e : Int) = 0 := by omega
    clear he
    go_enter Tryz.func11, Tryz.ntmps11
    go_wp2
    go_ret
    exact ⟨rfl, HB.out, But.refl D w⟩

end Go.Proofs.YtihnakblcfealaaGreatDoor

namespace Go.Proofs.YtihnakblcfealaaGreatDoor
open Go.RowKit Go.Lib

theorem byB_byt (l : List UInt8) (k : Nat) : byB l k = byt l k := by
  unfold byB byt
  rw [List.getD]
  cases l[k]? <;> rfl

theorem runeN_asc (n b0 b1 b2 b3 : Nat) (hn : 1 ≤ n) (h : b0 < 128) : runeN n b0 b1 b2 b3 = 1 := by
  unfold runeN
  rw [if_neg (by omega), if_pos h]
theorem runeN_hi (n b0 b1 b2 b3 : Nat) (hn : 1 ≤ n) (h : 128 ≤ b0) : runeN n b0 b1 b2 b3 = (checkN n b1 b2 b3 (Lib.firstT b0 % 8) (accLo (Lib.firstT b0 / 16)) (accHi (Lib.firstT b0 / 16))).getD 0 := by
  unfold runeN
  rw [if_neg (by omega), if_neg (by omega)]

theorem firstT_C2 (b0 : Nat) (h : 194 ≤ b0 ∧ b0 ≤ 223) : Lib.firstT b0 = 2 := by
  unfold Lib.firstT
  repeat' split
  all_goals first | rfl | (exfalso; omega)
theorem runeN_C2 (n b0 b1 b2 b3 : Nat) (hn : 1 ≤ n) (h : 194 ≤ b0 ∧ b0 ≤ 223) : runeN n b0 b1 b2 b3 = if n < 2 ∨ b1 < 128 ∨ 191 < b1 then 0 else 2 := by
  rw [runeN_hi n b0 b1 b2 b3 hn (by omega), firstT_C2 b0 h]
  exact checkN_two n b1 b2 b3 128 191

theorem firstT_E0 (b0 : Nat) (h : b0 = 224) : Lib.firstT b0 = 19 := by
  unfold Lib.firstT
  repeat' split
  all_goals first | rfl | (exfalso; omega)
theorem runeN_E0 (n b0 b1 b2 b3 : Nat) (hn : 1 ≤ n) (h : b0 = 224) : runeN n b0 b1 b2 b3 = if n < 3 ∨ b1 < 160 ∨ 191 < b1 ∨ b2 < 128 ∨ 191 < b2 then 0 else 3 := by
  rw [runeN_hi n b0 b1 b2 b3 hn (by omega), firstT_E0 b0 h]
  exact checkN_three n b1 b2 b3 160 191

theorem firstT_E1 (b0 : Nat) (h : 225 ≤ b0 ∧ b0 ≤ 236 ∨ b0 = 238 ∨ b0 = 239) : Lib.firstT b0 = 3 := by
  unfold Lib.firstT
  repeat' split
  all_goals first | rfl | (exfalso; omega)
theorem runeN_E1 (n b0 b1 b2 b3 : Nat) (hn : 1 ≤ n) (h : 225 ≤ b0 ∧ b0 ≤ 236 ∨ b0 = 238 ∨ b0 = 239) : runeN n b0 b1 b2 b3 = if n < 3 ∨ b1 < 128 ∨ 191 < b1 ∨ b2 < 128 ∨ 191 < b2 then 0 else 3 := by
  rw [runeN_hi n b0 b1 b2 b3 hn (by omega), firstT_E1 b0 h]
  exact checkN_three n b1 b2 b3 128 191

theorem firstT_ED (b0 : Nat) (h : b0 = 237) : Lib.firstT b0 = 35 := by
  unfold Lib.firstT
  repeat' split
  all_goals first | rfl | (exfalso; omega)
theorem runeN_ED (n b0 b1 b2 b3 : Nat) (hn : 1 ≤ n) (h : b0 = 237) : runeN n b0 b1 b2 b3 = if n < 3 ∨ b1 < 128 ∨ 159 < b1 ∨ b2 < 128 ∨ 191 < b2 then 0 else 3 := by
  rw [runeN_hi n b0 b1 b2 b3 hn (by omega), firstT_ED b0 h]
  exact checkN_three n b1 b2 b3 128 159

theorem firstT_F0 (b0 : Nat) (h : b0 = 240) : Lib.firstT b0 = 52 := by
  unfold Lib.firstT
  repeat' split
  all_goals first | rfl | (exfalso; omega)
theorem runeN_F0 (n b0 b1 b2 b3 : Nat) (hn : 1 ≤ n) (h : b0 = 240) : runeN n b0 b1 b2 b3 = if n < 4 ∨ b1 < 144 ∨ 191 < b1 ∨ b2 < 128 ∨ 191 < b2 ∨ b3 < 128 ∨ 191 < b3 then 0 else 4 := by
  rw [runeN_hi n b0 b1 b2 b3 hn (by omega), firstT_F0 b0 h]
  exact checkN_four n b1 b2 b3 144 191

theorem firstT_F1 (b0 : Nat) (h : 241 ≤ b0 ∧ b0 ≤ 243) : Lib.firstT b0 = 4 := by
  unfold Lib.firstT
  repeat' split
  all_goals first | rfl | (exfalso; omega)
theorem runeN_F1 (n b0 b1 b2 b3 : Nat) (hn : 1 ≤ n) (h : 241 ≤ b0 ∧ b0 ≤ 243) : runeN n b0 b1 b2 b3 = if n < 4 ∨ b1 < 128 ∨ 191 < b1 ∨ b2 < 128 ∨ 191 < b2 ∨ b3 < 128 ∨ 191 < b3 then 0 else 4 := by
  rw [runeN_hi n b0 b1 b2 b3 hn (by omega), firstT_F1 b0 h]
  exact checkN_four n b1 b2 b3 128 191

theorem firstT_F4 (b0 : Nat) (h : b0 = 244) : Lib.firstT b0 = 68 := by
  unfold Lib.firstT
  repeat' split
  all_goals first | rfl | (exfalso; omega)
theorem runeN_F4 (n b0 b1 b2 b3 : Nat) (hn : 1 ≤ n) (h : b0 = 244) : runeN n b0 b1 b2 b3 = if n < 4 ∨ b1 < 128 ∨ 143 < b1 ∨ b2 < 128 ∨ 191 < b2 ∨ b3 < 128 ∨ 191 < b3 then 0 else 4 := by
  rw [runeN_hi n b0 b1 b2 b3 hn (by omega), firstT_F4 b0 h]
  exact checkN_four n b1 b2 b3 128 143

theorem firstT_No (b0 : Nat) (h : 128 ≤ b0 ∧ b0 < 194 ∨ 244 < b0) : Lib.firstT b0 = 241 := by
  unfold Lib.firstT
  repeat' split
  all_goals first | rfl | (exfalso; omega)
theorem runeN_No (n b0 b1 b2 b3 : Nat) (hn : 1 ≤ n) (h : 128 ≤ b0 ∧ b0 < 194 ∨ 244 < b0) : runeN n b0 b1 b2 b3 = 0 := by
  rw [runeN_hi n b0 b1 b2 b3 hn (by omega), firstT_No b0 h]
  exact checkN_else _ _ _ _ _ _ _ (by decide) (by decide) (by decide)

def inB (l : List UInt8) (p lo hi : Nat) : Bool := decide (p < l.length ∧ lo ≤ byt l p ∧ byt l p ≤ hi)

set_option maxHeartbeats 1000000 in
theorem within_any (s : ByteArray) (p lo hi : Nat) (w : World) : Calls Tryz.prog 84 #[.string s, .int .i64 (p : Int), .int .i64 (lo : Int), .int .i64 (hi : Int)] w fun e w' => e = .returned (.bool (inB (bys s) p lo hi)) ∧ w = w' := by
  have HI : Hid (inB (bys s) p lo hi = decide (p < s.size ∧ lo ≤ byt (bys s) p ∧ byt (bys s) p ≤ hi)) := by
    show inB (bys s) p lo hi = _
    unfold inB
    rw [bys_len]
  rw [HI.out]
  clear HI
  by_cases h1 : p < s.size
  · have h1' : (p : Int) < (s.size : Int) := by omega
    have hg : ∀ h : p < s.size, s[p].toNat = byt (bys s) p := fun h => byt_get s p h
    have hb2 := byt_lt (bys s) p
    obtain ⟨b, hbb⟩ : ∃ b, b = byt (bys s) p := ⟨_, rfl⟩
    rw [← hbb] at hg hb2 ⊢
    clear hbb
    by_cases h2 : lo ≤ b
    · have h2' : (lo : Int) ≤ (b : Int) := by omega
      by_cases h3 : b ≤ hi
      · have h3' : (b : Int) ≤ (hi : Int) := by omega
        rw [decide_eq_true (by omega)]
        go_enter Tryz.func84, Tryz.ntmps84
        go_wp2
        go_ret
        exact ⟨rfl, rfl⟩
      · have h3' : ¬ (b : Int) ≤ (hi : Int) := by omega
        rw [decide_eq_false (by omega)]
        go_enter Tryz.func84, Tryz.ntmps84
        go_wp2
        go_ret
        exact ⟨rfl, rfl⟩
    · have h2' : ¬ (lo : Int) ≤ (b : Int) := by omega
      rw [decide_eq_false (by omega)]
      go_enter Tryz.func84, Tryz.ntmps84
      go_wp2
      go_ret
      exact ⟨rfl, rfl⟩
  · have h1' : ¬ (p : Int) < (s.size : Int) := by omega
    rw [decide_eq_false (by omega)]
    go_enter Tryz.func84, Tryz.ntmps84
    go_wp2
    go_ret
    exact ⟨rfl, rfl⟩

end Go.Proofs.YtihnakblcfealaaGreatDoor
