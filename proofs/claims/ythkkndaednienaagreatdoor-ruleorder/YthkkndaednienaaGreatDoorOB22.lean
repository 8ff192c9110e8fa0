/-
  What rule's PickRange does.
  quipulaw09's awake answers true.
  The parts of texts that are joined; rows of parts that are joined.
  A rule more at the end, in plain words.
  What quipulaw09's alone does; RuleOrder.
  RuleOrder answers true.
  What the rows' list of package variables gives, and a world that holds them.
  What the rows' list of package variables gives of the two errors of strconv.
-/
import Derived.Test.YthkkndaednienaaGreatDoorOB21
import Derived.Test.YthkkndaednienaaGreatDoorOB20
import Derived.Test.YthkkndaednienaaGreatDoorRows
import Derived.Test.YthkkndaednienaaGreatDoorOB6
import Derived.Lib.LaidTab
import Derived.Deep.DeepHandedRow
import Derived.Test.YthkkndaednienaaGreatDoorOB15
namespace Go.Proofs.YthkkndaednienaaGreatDoor
open Go.RowKit

def rpickT (s : List UInt8) (a b : Int) : Int × Int := if 1024 < s.length then (0, 91) else match entriesT s with
  | none => (0, 90)
  | some l => if (0 ≤ a ∧ a < 6) ∧ (0 ≤ b ∧ b < 6) then ((entryH a.toNat b.toNat l : Int), 0) else (0, 1)

theorem PickRange_long (s : ByteArray) (a b : Int) (w : World) (h : 1024 < s.size) : Calls Tryz.prog 22 #[.string s, .int .i64 a, .int .i64 b] w fun e' w' => e' = .returned (.tuple #[.int .i64 0, .int .i64 91]) ∧ Below w.heap.size w w' := by
  have hmf : ∀ (fn : Fn) (first cap : Array Value) (w : World), (Instr.makeFunc fn first cap).run Tryz.prog w = .ok (.func fn first cap) w := fun _ _ _ _ => rfl
  have h' : 1024 < (s.size : Int) := by omega
  go_enter_defers Tryz.func22, Tryz.ntmps22
  go_wp2
  refine leaves_cons (f := 59) (args := #[.pointer (some ⟨w.heap.size, 0, none⟩), .pointer (some ⟨w.heap.size + 1, 0, none⟩)]) (by simp) (by simp [go_sem]) ?_
  refine (idle_PickRange ⟨w.heap.size, 0, none⟩ ⟨w.heap.size + 1, 0, none⟩ _).mono ?_
  rintro e' u' w'' ⟨rfl, rfl, rfl⟩
  simp [Leaves, settle, results, Tryz.results22, go_sem]
  exact ((Below.refl _ _).alloc (Nat.le_refl _) _).alloc (by simp) _

theorem PickRange_no (s : ByteArray) (a b : Int) (w : World) (h : s.size ≤ 1024) (he : Evs w) (hr : entriesT (bys s) = none) : Calls Tryz.prog 22 #[.string s, .int .i64 a, .int .i64 b] w fun e' w' => e' = .returned (.tuple #[.int .i64 0, .int .i64 90]) ∧ Below w.heap.size w w' := by
  have hmf : ∀ (fn : Fn) (first cap : Array Value) (w : World), (Instr.makeFunc fn first cap).run Tryz.prog w = .ok (.func fn first cap) w := fun _ _ _ _ => rfl
  have h' : ¬ 1024 < (s.size : Int) := by omega
  have HB : Hid (Below w.heap.size w ((w.alloc (.cells #[.int .i64 0] 3)).alloc (.cells #[.int .i64 0] 24))) := ((Below.refl _ _).alloc (Nat.le_refl _) _).alloc (by simp) _
  have BC := hide (Blk.alloc (Blk.newAt w w.heap.size rfl #[.int .i64 0] 3) (.cells #[.int .i64 0] 24))
  have BE := hide (Blk.newAt (w.alloc (.cells #[.int .i64 0] 3)) (w.heap.size + 1) (by simp) #[.int .i64 0] 24)
  have RR := hide (readEntries_any s ((w.alloc (.cells #[.int .i64 0] 3)).alloc (.cells #[.int .i64 0] 24)) h (he.below HB.out))
  rw [hr] at RR
  clear h he hr
  go_enter_defers Tryz.func22, Tryz.ntmps22
  go_wp2_with fail
  refine RR.out.mono ?_
  rintro e' w1 ⟨hb, rfl⟩
  have BC1 := Blk.on BC hb
  have BE1 := Blk.on BE hb
  have HB1 := hide (HB.out.trans (hb.mono HB.out.size))
  clear hb BC BE HB
  have cc0 := BC1.out.cell 0
  have ce0 := BE1.out.cell 0
  simp only [List.getElem?_toArray, List.getElem?_cons_zero] at cc0 ce0
  have fc0 := BC1.out.free 0
  have fe0 := BE1.out.free 0
  clear RR
  go_wp2
  refine leaves_cons (f := 59) (args := #[.pointer (some ⟨w.heap.size, 0, none⟩), .pointer (some ⟨w.heap.size + 1, 0, none⟩)]) (by simp) (by simp [go_sem]) ?_
  refine (catch_PickRange ⟨w.heap.size, 0, none⟩ ⟨w.heap.size + 1, 0, none⟩ _ _ _ _ [] _ (by simp) cc0 fc0 ce0 fe0).mono ?_
  rintro e' u' w'' ⟨rfl, rfl, rfl⟩
  have p1 := blk_setC BC1.out 0 (.int .i64 0)
  have p2 := Blk.other p1 (a := ⟨w.heap.size + 1, 0, none⟩) (by simp) (.int .i64 90)
  have p3 := blk_setC (Blk.other BE1.out (a := ⟨w.heap.size, 0, none⟩) (by simp) (.int .i64 0)) 0 (.int .i64 90)
  have q2 := p2.cell 0
  have q3 := p3.cell 0
  simp at q2 q3
  simp [Leaves, settle, results, Tryz.results22, go_sem, q2, q3]
  exact (HB1.out.setCell (p := ⟨w.heap.size, 0, none⟩) (Nat.le_refl _) _).setCell (p := ⟨w.heap.size + 1, 0, none⟩) (by simp) _

theorem PickRange_a (s : ByteArray) (a b : Int) (w : World) (h : s.size ≤ 1024) (he : Evs w) (l : List ((Nat × Nat) × Nat)) (hr : entriesT (bys s) = some l) (ha : ¬ (0 ≤ a ∧ a < 6)) : Calls Tryz.prog 22 #[.string s, .int .i64 a, .int .i64 b] w fun e' w' => e' = .returned (.tuple #[.int .i64 0, .int .i64 1]) ∧ Below w.heap.size w w' := by
  have hmf : ∀ (fn : Fn) (first cap : Array Value) (w : World), (Instr.makeFunc fn first cap).run Tryz.prog w = .ok (.func fn first cap) w := fun _ _ _ _ => rfl
  have h' : ¬ 1024 < (s.size : Int) := by omega
  have HB : Hid (Below w.heap.size w ((w.alloc (.cells #[.int .i64 0] 3)).alloc (.cells #[.int .i64 0] 24))) := ((Below.refl _ _).alloc (Nat.le_refl _) _).alloc (by simp) _
  have BC := hide (Blk.alloc (Blk.newAt w w.heap.size rfl #[.int .i64 0] 3) (.cells #[.int .i64 0] 24))
  have BE := hide (Blk.newAt (w.alloc (.cells #[.int .i64 0] 3)) (w.heap.size + 1) (by simp) #[.int .i64 0] 24)
  have RR := hide (readEntries_any s ((w.alloc (.cells #[.int .i64 0] 3)).alloc (.cells #[.int .i64 0] 24)) h (he.below HB.out))
  rw [hr] at RR
  have K0 := hide (fun X => isCat_F a X ha)
  clear ha
  clear h he hr
  go_enter_defers Tryz.func22, Tryz.ntmps22
  go_wp2_with fail
  refine RR.out.mono ?_
  rintro e' w1 ⟨hb, va, rfl, _⟩
  have BC1 := Blk.on BC hb
  have BE1 := Blk.on BE hb
  have HB1 := hide (HB.out.trans (hb.mono HB.out.size))
  clear hb BC BE HB
  clear RR
  go_wp2_with fail
  refine (K0.out _).mono ?_
  rintro e' w' ⟨rfl, rfl⟩
  have cc0 := BC1.out.cell 0
  have ce0 := BE1.out.cell 0
  simp only [List.getElem?_toArray, List.getElem?_cons_zero] at cc0 ce0
  have fc0 := BC1.out.free 0
  have fe0 := BE1.out.free 0
  go_wp2
  refine leaves_cons (f := 59) (args := #[.pointer (some ⟨w.heap.size, 0, none⟩), .pointer (some ⟨w.heap.size + 1, 0, none⟩)]) (by simp) (by simp [go_sem]) ?_
  refine (idle_PickRange ⟨w.heap.size, 0, none⟩ ⟨w.heap.size + 1, 0, none⟩ _).mono ?_
  rintro e' u' w'' ⟨rfl, rfl, rfl⟩
  have p1 := blk_setC BC1.out 0 (.int .i64 0)
  have p2 := Blk.other p1 (a := ⟨w.heap.size + 1, 0, none⟩) (by simp) (.int .i64 1)
  have p3 := blk_setC (Blk.other BE1.out (a := ⟨w.heap.size, 0, none⟩) (by simp) (.int .i64 0)) 0 (.int .i64 1)
  have q2 := p2.cell 0
  have q3 := p3.cell 0
  simp at q2 q3
  simp [Leaves, settle, results, Tryz.results22, go_sem, q2, q3]
  exact (HB1.out.setCell (p := ⟨w.heap.size, 0, none⟩) (Nat.le_refl _) _).setCell (p := ⟨w.heap.size + 1, 0, none⟩) (by simp) _

theorem PickRange_b (s : ByteArray) (a b : Int) (w : World) (h : s.size ≤ 1024) (he : Evs w) (l : List ((Nat × Nat) × Nat)) (hr : entriesT (bys s) = some l) (ha : 0 ≤ a ∧ a < 6) (hb : ¬ (0 ≤ b ∧ b < 6)) : Calls Tryz.prog 22 #[.string s, .int .i64 a, .int .i64 b] w fun e' w' => e' = .returned (.tuple #[.int .i64 0, .int .i64 1]) ∧ Below w.heap.size w w' := by
  have hmf : ∀ (fn : Fn) (first cap : Array Value) (w : World), (Instr.makeFunc fn first cap).run Tryz.prog w = .ok (.func fn first cap) w := fun _ _ _ _ => rfl
  have h' : ¬ 1024 < (s.size : Int) := by omega
  have HB : Hid (Below w.heap.size w ((w.alloc (.cells #[.int .i64 0] 3)).alloc (.cells #[.int .i64 0] 24))) := ((Below.refl _ _).alloc (Nat.le_refl _) _).alloc (by simp) _
  have BC := hide (Blk.alloc (Blk.newAt w w.heap.size rfl #[.int .i64 0] 3) (.cells #[.int .i64 0] 24))
  have BE := hide (Blk.newAt (w.alloc (.cells #[.int .i64 0] 3)) (w.heap.size + 1) (by simp) #[.int .i64 0] 24)
  have RR := hide (readEntries_any s ((w.alloc (.cells #[.int .i64 0] 3)).alloc (.cells #[.int .i64 0] 24)) h (he.below HB.out))
  rw [hr] at RR
  have K0 := hide (fun X => isCat_T a X ha)
  have K1 := hide (fun X => isCat_F b X hb)
  clear ha hb
  clear h he hr
  go_enter_defers Tryz.func22, Tryz.ntmps22
  go_wp2_with fail
  refine RR.out.mono ?_
  rintro e' w1 ⟨hb, va, rfl, _⟩
  have BC1 := Blk.on BC hb
  have BE1 := Blk.on BE hb
  have HB1 := hide (HB.out.trans (hb.mono HB.out.size))
  clear hb BC BE HB
  clear RR
  go_wp2_with fail
  refine (K0.out _).mono ?_
  rintro e' w' ⟨rfl, rfl⟩
  go_wp2_with fail
  refine (K1.out _).mono ?_
  rintro e' w' ⟨rfl, rfl⟩
  have cc0 := BC1.out.cell 0
  have ce0 := BE1.out.cell 0
  simp only [List.getElem?_toArray, List.getElem?_cons_zero] at cc0 ce0
  have fc0 := BC1.out.free 0
  have fe0 := BE1.out.free 0
  go_wp2
  refine leaves_cons (f := 59) (args := #[.pointer (some ⟨w.heap.size, 0, none⟩), .pointer (some ⟨w.heap.size + 1, 0, none⟩)]) (by simp) (by simp [go_sem]) ?_
  refine (idle_PickRange ⟨w.heap.size, 0, none⟩ ⟨w.heap.size + 1, 0, none⟩ _).mono ?_
  rintro e' u' w'' ⟨rfl, rfl, rfl⟩
  have p1 := blk_setC BC1.out 0 (.int .i64 0)
  have p2 := Blk.other p1 (a := ⟨w.heap.size + 1, 0, none⟩) (by simp) (.int .i64 1)
  have p3 := blk_setC (Blk.other BE1.out (a := ⟨w.heap.size, 0, none⟩) (by simp) (.int .i64 0)) 0 (.int .i64 1)
  have q2 := p2.cell 0
  have q3 := p3.cell 0
  simp at q2 q3
  simp [Leaves, settle, results, Tryz.results22, go_sem, q2, q3]
  exact (HB1.out.setCell (p := ⟨w.heap.size, 0, none⟩) (Nat.le_refl _) _).setCell (p := ⟨w.heap.size + 1, 0, none⟩) (by simp) _

theorem PickRange_yes (s : ByteArray) (a b : Nat) (w : World) (h : s.size ≤ 1024) (he : Evs w) (l : List ((Nat × Nat) × Nat)) (hr : entriesT (bys s) = some l) (ha : a < 6) (hb : b < 6) : Calls Tryz.prog 22 #[.string s, .int .i64 (a : Int), .int .i64 (b : Int)] w fun e' w' => e' = .returned (.tuple #[.int .i64 (entryH a b l : Int), .int .i64 0]) ∧ Below w.heap.size w w' := by
  have hmf : ∀ (fn : Fn) (first cap : Array Value) (w : World), (Instr.makeFunc fn first cap).run Tryz.prog w = .ok (.func fn first cap) w := fun _ _ _ _ => rfl
  have h' : ¬ 1024 < (s.size : Int) := by omega
  have HB : Hid (Below w.heap.size w ((w.alloc (.cells #[.int .i64 0] 3)).alloc (.cells #[.int .i64 0] 24))) := ((Below.refl _ _).alloc (Nat.le_refl _) _).alloc (by simp) _
  have BC := hide (Blk.alloc (Blk.newAt w w.heap.size rfl #[.int .i64 0] 3) (.cells #[.int .i64 0] 24))
  have BE := hide (Blk.newAt (w.alloc (.cells #[.int .i64 0] 3)) (w.heap.size + 1) (by simp) #[.int .i64 0] 24)
  have RR := hide (readEntries_any s ((w.alloc (.cells #[.int .i64 0] 3)).alloc (.cells #[.int .i64 0] 24)) h (he.below HB.out))
  rw [hr] at RR
  have K0 := hide (fun X => isCat_T (a : Int) X (by omega))
  have K1 := hide (fun X => isCat_T (b : Int) X (by omega))
  obtain ⟨R, hR⟩ : ∃ R, R = entryH a b l := ⟨_, rfl⟩
  rw [← hR]
  have HRR := hide hR
  clear h he hr hR ha hb
  go_enter_defers Tryz.func22, Tryz.ntmps22
  go_wp2_with fail
  refine RR.out.mono ?_
  rintro e' w1 ⟨hb, va, rfl, hls⟩
  obtain ⟨sa, sn, sc, rfl⟩ := Lst.slice hls
  have FF := hide (entryOf_any _ l sa sn sc a b w1 hls)
  rw [← HRR.out] at FF
  have BC1 := Blk.on BC hb
  have BE1 := Blk.on BE hb
  have HB1 := hide (HB.out.trans (hb.mono HB.out.size))
  clear hb BC BE HB
  clear RR hls HRR
  go_wp2_with fail
  refine (K0.out _).mono ?_
  rintro e' w' ⟨rfl, rfl⟩
  go_wp2_with fail
  refine (K1.out _).mono ?_
  rintro e' w' ⟨rfl, rfl⟩
  go_wp2_with fail
  refine FF.out.mono ?_
  rintro e' w2 ⟨rfl, hb⟩
  have BC2 := Blk.on BC1 hb
  have BE2 := Blk.on BE1 hb
  have HB2 := hide (HB1.out.trans (hb.mono HB1.out.size))
  clear hb BC1 BE1 HB1
  have cc0 := BC2.out.cell 0
  have ce0 := BE2.out.cell 0
  simp only [List.getElem?_toArray, List.getElem?_cons_zero] at cc0 ce0
  have fc0 := BC2.out.free 0
  have fe0 := BE2.out.free 0
  clear FF
  go_wp2
  refine leaves_cons (f := 59) (args := #[.pointer (some ⟨w.heap.size, 0, none⟩), .pointer (some ⟨w.heap.size + 1, 0, none⟩)]) (by simp) (by simp [go_sem]) ?_
  refine (idle_PickRange ⟨w.heap.size, 0, none⟩ ⟨w.heap.size + 1, 0, none⟩ _).mono ?_
  rintro e' u' w'' ⟨rfl, rfl, rfl⟩
  have p1 := blk_setC BC2.out 0 (.int .i64 (R : Int))
  have p2 := Blk.other p1 (a := ⟨w.heap.size + 1, 0, none⟩) (by simp) (.int .i64 0)
  have p3 := blk_setC (Blk.other BE2.out (a := ⟨w.heap.size, 0, none⟩) (by simp) (.int .i64 (R : Int))) 0 (.int .i64 0)
  have q2 := p2.cell 0
  have q3 := p3.cell 0
  simp at q2 q3
  simp [Leaves, settle, results, Tryz.results22, go_sem, q2, q3]
  exact (HB2.out.setCell (p := ⟨w.heap.size, 0, none⟩) (Nat.le_refl _) _).setCell (p := ⟨w.heap.size + 1, 0, none⟩) (by simp) _

theorem PickRange_any (s : ByteArray) (a b : Int) (w : World) (he : Evs w) : Calls Tryz.prog 22 #[.string s, .int .i64 a, .int .i64 b] w fun e' w' => e' = .returned (.tuple #[.int .i64 (rpickT (bys s) a b).1, .int .i64 (rpickT (bys s) a b).2]) ∧ Below w.heap.size w w' := by
  unfold rpickT
  rw [bys_len]
  by_cases h : 1024 < s.size
  · rw [if_pos h]; exact PickRange_long s a b w h
  · rw [if_neg h]
    cases hr : entriesT (bys s) with
    | none => exact PickRange_no s a b w (by omega) he hr
    | some l =>
      dsimp only
      by_cases ha : 0 ≤ a ∧ a < 6
      · by_cases hb : 0 ≤ b ∧ b < 6
        · rw [if_pos ⟨ha, hb⟩]
          obtain ⟨a', rfl⟩ := Int.eq_ofNat_of_zero_le ha.1
          obtain ⟨b', rfl⟩ := Int.eq_ofNat_of_zero_le hb.1
          exact PickRange_yes s a' b' w (by omega) he l hr (by omega) (by omega)
        · rw [if_neg (fun h => hb h.2)]; exact PickRange_b s a b w (by omega) he l hr ha hb
      · rw [if_neg (fun h => ha h.1)]; exact PickRange_a s a b w (by omega) he l hr ha

end Go.Proofs.YthkkndaednienaaGreatDoor

namespace Go.Proofs.YthkkndaednienaaGreatDoor
open Go.RowKit

theorem digB_al {l : List UInt8} (h : l.all (fun b => decide (48 ≤ b.toNat) && decide (b.toNat ≤ 57)) = true) : DigB l := by
  intro k hk
  unfold byt
  rw [List.getElem?_eq_getElem hk]
  have := List.all_eq_true.1 h _ (List.getElem_mem hk)
  simpa using this

theorem aw_r1 : rulesT [111, 110, 101, 58, 32, 110, 32, 37, 32, 49, 48, 32, 61, 32, 49, 32, 97, 110, 100, 32, 110, 32, 37, 32, 49, 48, 48, 32, 33, 61, 32, 49, 49] = some [(1, [[⟨110, 10, false, [(1, 1)]⟩, ⟨110, 100, true, [(11, 11)]⟩]])] := by kernel_rfl
theorem aw_r2 : rulesT [111, 110, 101, 58, 32, 110, 32, 61, 32, 49] = some [(1, [[⟨110, 0, false, [(1, 1)]⟩]])] := by kernel_rfl
theorem aw_m1 : MayO ⟨[50, 49], 0, 0, [48], [48], 0⟩ := ⟨⟨by decide, by decide⟩, ⟨by decide, by decide⟩, ⟨by decide, by decide⟩, .inr ⟨by decide, by decide, by decide, digB_al rfl⟩, .inl rfl, .inl rfl, fun _ => rfl, fun h => absurd rfl h⟩
theorem aw_m2 : ¬ MayO ⟨[], 0, 0, [], [], 0⟩ := fun h => by
  rcases h.2.2.2.1 with g | g
  · exact absurd (show ([] : List UInt8) = [48] from g) (by decide)
  · exact g.1 rfl
theorem aw_p1 : pickT [111, 110, 101, 58, 32, 110, 32, 37, 32, 49, 48, 32, 61, 32, 49, 32, 97, 110, 100, 32, 110, 32, 37, 32, 49, 48, 48, 32, 33, 61, 32, 49, 49] ⟨[50, 49], 0, 0, [48], [48], 0⟩ = (1, 0) := by
  unfold pickT
  rw [if_neg (by decide), aw_r1]
  dsimp only
  rw [if_pos aw_m1]
  kernel_rfl
theorem aw_p2 : pickT [111, 110, 101, 58, 32, 110, 32, 61, 32, 49] ⟨[], 0, 0, [], [], 0⟩ = (0, 92) := by
  unfold pickT
  rw [if_neg (by decide), aw_r2]
  dsimp only
  rw [if_neg aw_m2]
theorem aw_q1 : rpickT [111, 110, 101, 43, 111, 116, 104, 101, 114, 58, 32, 102, 101, 119] 1 5 = (3, 0) := by kernel_rfl
theorem aw_q2 : rpickT [] 6 0 = (0, 1) := by kernel_rfl
theorem aw_c1 : rcheckT [111, 116, 104, 101, 114, 58, 32, 110, 32, 61, 32, 49] = 90 := by kernel_rfl
theorem aw_c2 : rcheckT [] = 0 := by kernel_rfl
theorem aw_e1 : echeckT [111, 110, 101, 58, 32, 111, 110, 101] = 90 := by kernel_rfl
theorem aw_e2 : echeckT [] = 0 := by kernel_rfl

set_option maxRecDepth 100000 in
set_option maxHeartbeats 2000000 in
theorem awake09 (w : World) (he : Evs w) : Calls Tryz.prog 19 #[] w fun e w' => e = .returned (.bool true) ∧ Below w.heap.size w w' := by
  have HE := hide he
  have HB0 : Hid (Below w.heap.size w (w.alloc (.cells #[.string ⟨#[50, 49]⟩, .int .i64 0, .int .i64 0, .string ⟨#[48]⟩, .string ⟨#[48]⟩, .int .i64 0] 37))) := (Below.refl _ _).alloc (Nat.le_refl _) _
  have K1 := hide (fun X (h : Below w.heap.size w X) => Pick_any ⟨#[111, 110, 101, 58, 32, 110, 32, 37, 32, 49, 48, 32, 61, 32, 49, 32, 97, 110, 100, 32, 110, 32, 37, 32, 49, 48, 48, 32, 33, 61, 32, 49, 49]⟩ ⟨#[50, 49]⟩ 0 0 ⟨#[48]⟩ ⟨#[48]⟩ 0 X (HE.out.below h))
  rw [show bys ⟨#[111, 110, 101, 58, 32, 110, 32, 37, 32, 49, 48, 32, 61, 32, 49, 32, 97, 110, 100, 32, 110, 32, 37, 32, 49, 48, 48, 32, 33, 61, 32, 49, 49]⟩ = [111, 110, 101, 58, 32, 110, 32, 37, 32, 49, 48, 32, 61, 32, 49, 32, 97, 110, 100, 32, 110, 32, 37, 32, 49, 48, 48, 32, 33, 61, 32, 49, 49] from rfl, show bys ⟨#[50, 49]⟩ = [50, 49] from rfl, show bys ⟨#[48]⟩ = [48] from rfl, aw_p1] at K1
  have K2 := hide (fun X (h : Below w.heap.size w X) => Pick_any ⟨#[111, 110, 101, 58, 32, 110, 32, 61, 32, 49]⟩ ⟨#[]⟩ 0 0 ⟨#[]⟩ ⟨#[]⟩ 0 X (HE.out.below h))
  rw [show bys ⟨#[111, 110, 101, 58, 32, 110, 32, 61, 32, 49]⟩ = [111, 110, 101, 58, 32, 110, 32, 61, 32, 49] from rfl, show bys ⟨#[]⟩ = [] from rfl, aw_p2] at K2
  have K3 := hide (fun X (h : Below w.heap.size w X) => PickRange_any ⟨#[111, 110, 101, 43, 111, 116, 104, 101, 114, 58, 32, 102, 101, 119]⟩ 1 5 X (HE.out.below h))
  rw [show bys ⟨#[111, 110, 101, 43, 111, 116, 104, 101, 114, 58, 32, 102, 101, 119]⟩ = [111, 110, 101, 43, 111, 116, 104, 101, 114, 58, 32, 102, 101, 119] from rfl, aw_q1] at K3
  have K4 := hide (fun X (h : Below w.heap.size w X) => PickRange_any ⟨#[]⟩ 6 0 X (HE.out.below h))
  rw [show bys ⟨#[]⟩ = [] from rfl, aw_q2] at K4
  have K5 := hide (fun X (h : Below w.heap.size w X) => Check_any ⟨#[111, 116, 104, 101, 114, 58, 32, 110, 32, 61, 32, 49]⟩ X (HE.out.below h))
  rw [show bys ⟨#[111, 116, 104, 101, 114, 58, 32, 110, 32, 61, 32, 49]⟩ = [111, 116, 104, 101, 114, 58, 32, 110, 32, 61, 32, 49] from rfl, aw_c1] at K5
  have K6 := hide (fun X (h : Below w.heap.size w X) => Check_any ⟨#[]⟩ X (HE.out.below h))
  rw [show bys ⟨#[]⟩ = [] from rfl, aw_c2] at K6
  have K7 := hide (fun X (h : Below w.heap.size w X) => CheckRanges_any ⟨#[111, 110, 101, 58, 32, 111, 110, 101]⟩ X (HE.out.below h))
  rw [show bys ⟨#[111, 110, 101, 58, 32, 111, 110, 101]⟩ = [111, 110, 101, 58, 32, 111, 110, 101] from rfl, aw_e1] at K7
  have K8 := hide (fun X (h : Below w.heap.size w X) => CheckRanges_any ⟨#[]⟩ X (HE.out.below h))
  rw [show bys ⟨#[]⟩ = [] from rfl, aw_e2] at K8
  clear he HE
  go_enter Tryz.func19, Tryz.ntmps19
  go_wp2_with fail
  refine (K1.out _ HB0.out).mono ?_
  rintro e w1 ⟨rfl, hb⟩
  have HB1 := hide (HB0.out.trans (hb.mono HB0.out.size))
  clear hb K1 HB0
  go_wp2_with fail
  refine (K2.out _ HB1.out).mono ?_
  rintro e w2 ⟨rfl, hb⟩
  have HB2 := hide (HB1.out.trans (hb.mono HB1.out.size))
  clear hb K2 HB1
  go_wp2_with fail
  refine (K3.out _ HB2.out).mono ?_
  rintro e w3 ⟨rfl, hb⟩
  have HB3 := hide (HB2.out.trans (hb.mono HB2.out.size))
  clear hb K3 HB2
  go_wp2_with fail
  refine (K4.out _ HB3.out).mono ?_
  rintro e w4 ⟨rfl, hb⟩
  have HB4 := hide (HB3.out.trans (hb.mono HB3.out.size))
  clear hb K4 HB3
  go_wp2_with fail
  refine (K5.out _ HB4.out).mono ?_
  rintro e w5 ⟨rfl, hb⟩
  have HB5 := hide (HB4.out.trans (hb.mono HB4.out.size))
  clear hb K5 HB4
  go_wp2_with fail
  refine (K6.out _ HB5.out).mono ?_
  rintro e w6 ⟨rfl, hb⟩
  have HB6 := hide (HB5.out.trans (hb.mono HB5.out.size))
  clear hb K6 HB5
  go_wp2_with fail
  refine (K7.out _ HB6.out).mono ?_
  rintro e w7 ⟨rfl, hb⟩
  have HB7 := hide (HB6.out.trans (hb.mono HB6.out.size))
  clear hb K7 HB6
  go_wp2_with fail
  refine (K8.out _ HB7.out).mono ?_
  rintro e w8 ⟨rfl, hb⟩
  have HB8 := hide (HB7.out.trans (hb.mono HB7.out.size))
  clear hb K8 HB7
  go_wp2
  go_ret
  exact ⟨rfl, HB8.out⟩

end Go.Proofs.YthkkndaednienaaGreatDoor

namespace Go.Proofs.YthkkndaednienaaGreatDoor
open Go.RowKit

theorem btrim_nil {A : List UInt8} (X : List UInt8) (h : trimB A = []) : trimB (A ++ X) = trimB X := by
  unfold trimB at *
  induction A with
  | nil => rfl
  | cons a r ih =>
    simp only [List.dropWhile] at h
    split at h
    · rename_i ha
      rw [List.cons_append, List.dropWhile, ha]
      exact ih h
    · cases h

theorem btrim_cons {A : List UInt8} (X : List UInt8) {a : UInt8} {r : List UInt8} (h : trimB A = a :: r) : trimB (A ++ X) = a :: (r ++ X) := by
  unfold trimB at *
  induction A with
  | nil => cases h
  | cons b q ih =>
    simp only [List.dropWhile] at h
    split at h
    · rename_i hb
      rw [List.cons_append, List.dropWhile, hb]
      exact ih h
    · rename_i hb
      rw [List.cons_append, List.dropWhile, hb]
      cases h
      rfl

theorem takeW_stop (p : UInt8 → Bool) (l R : List UInt8) (c : UInt8) (hc : p c = false) : ((l ++ c :: R).takeWhile p).length = (l.takeWhile p).length := by
  induction l with
  | nil => simp [List.takeWhile, hc]
  | cons a l ih =>
    by_cases ha : p a = true
    · simp [List.takeWhile, ha, ih]
    · simp [List.takeWhile, ha]

def Brk (c : UInt8) : Prop := isLt c = false ∧ isNm c = false ∧ c ≠ 61 ∧ c ≠ 46

theorem partN_app (a : UInt8) (r R : List UInt8) (c : UInt8) (hc : Brk c) : partN (a :: (r ++ c :: R)) = partN (a :: r) := by
  obtain ⟨h1, h2, h3, h4⟩ := hc
  have e1 := takeW_stop isLt (a :: r) R c h1
  have e2 := takeW_stop isNm (a :: r) R c h2
  rw [List.cons_append] at e1 e2
  simp only [partN]
  rw [e1, e2]
  have e3 : ((a.toNat = 33 ∧ (r ++ c :: R).head? = some 61) ∨ (a.toNat = 46 ∧ (r ++ c :: R).head? = some 46)) ↔ ((a.toNat = 33 ∧ r.head? = some 61) ∨ (a.toNat = 46 ∧ r.head? = some 46)) := by
    cases r with
    | nil => simp [h3, h4]
    | cons b r => simp
  simp only [e3]

theorem toks_app (A : List UInt8) (c : UInt8) (R : List UInt8) (hc : Brk c) : toks (A ++ c :: R) = if (toks A).2 then ((toks A).1, true) else ((toks A).1 ++ (toks (c :: R)).1, (toks (c :: R)).2) := by
  obtain ⟨n, hn⟩ : ∃ n, A.length ≤ n := ⟨_, Nat.le_refl _⟩
  induction n generalizing A with
  | zero =>
    obtain rfl := List.eq_nil_of_length_eq_zero (by omega : A.length = 0)
    rw [List.nil_append, show toks [] = ([], false) from rfl]
    simp
  | succ n ih =>
    have hl := trimB_len A
    cases ht : trimB A with
    | nil =>
      have hA : toks A = ([], false) := by rw [toks_step, ht]
      have hB : toks (A ++ c :: R) = toks (c :: R) := by rw [toks_step, btrim_nil _ ht, ← toks_step]
      rw [hA, hB]; rfl
    | cons a r =>
      cases hp : partN (a :: r) with
      | none =>
        have hA : toks A = ([], true) := by rw [toks_step, ht]; dsimp only; rw [hp]
        have hB : toks (A ++ c :: R) = ([], true) := by rw [toks_step, btrim_cons _ ht]; dsimp only; rw [partN_app a r R c hc, hp]
        rw [hA, hB]; rfl
      | some k =>
        have hk := partN_le hp
        have e1 : (a :: (r ++ c :: R)).take k = (a :: r).take k := by
          rw [← List.cons_append, List.take_append_of_le_length hk.2]
        have e2 : (a :: (r ++ c :: R)).drop k = (a :: r).drop k ++ c :: R := by
          rw [← List.cons_append, List.drop_append_of_le_length hk.2]
        have hA : toks A = ((a :: r).take k :: (toks ((a :: r).drop k)).1, (toks ((a :: r).drop k)).2) := by rw [toks_step, ht]; dsimp only; rw [hp]
        have hB : toks (A ++ c :: R) = ((a :: r).take k :: (toks ((a :: r).drop k ++ c :: R)).1, (toks ((a :: r).drop k ++ c :: R)).2) := by
          rw [toks_step, btrim_cons _ ht]
          dsimp only
          rw [partN_app a r R c hc, hp]
          dsimp only
          rw [e1, e2]
        rw [hA, hB, ih ((a :: r).drop k) (by rw [List.length_drop, ← ht]; rw [← ht] at hk; omega)]
        dsimp only
        split
        · rfl
        · rfl

theorem toks_sign (c : UInt8) (R : List UInt8) (h1 : isLt c = false) (h2 : isNm c = false) (h3 : isSg c = true) (h4 : c ≠ 32) (h5 : c ≠ 33) (h6 : c ≠ 46) : toks (c :: R) = ([c] :: (toks R).1, (toks R).2) := by
  rw [toks_step]
  have e : trimB (c :: R) = c :: R := by
    unfold trimB
    have : (c == 32) = false := beq_eq_false_iff_ne.2 h4
    simp [List.dropWhile, this]
  rw [e]
  have n33 : ¬ c.toNat = 33 := fun h => h5 (UInt8.toNat_inj.1 h)
  have n46 : ¬ c.toNat = 46 := fun h => h6 (UInt8.toNat_inj.1 h)
  have hp : partN (c :: R) = some 1 := by
    unfold partN
    simp [h1, h2, h3, n33, n46]
  dsimp only
  rw [hp]
  rfl

theorem toks_blank (R : List UInt8) : toks (32 :: R) = toks R := by
  rw [toks_step, toks_step R]
  rfl

theorem splitT_app (sep : Tok) (a b : List Tok) : splitT sep (a ++ sep :: b) = splitT sep a ++ splitT sep b := by
  induction a with
  | nil => simp [splitT]
  | cons t a ih =>
    rw [List.cons_append, splitT, splitT, ih]
    split
    · rfl
    · cases h : splitT sep a with
      | nil => exact absurd h (splitT_ne sep a)
      | cons q qs => rfl

theorem splitT_none (sep : Tok) (a : List Tok) (h : sep ∉ a) : splitT sep a = [a] := by
  induction a with
  | nil => rfl
  | cons t a ih =>
    rw [splitT, if_neg (fun e => h (by simp [e])), ih (fun hm => h (by simp [hm]))]

theorem mapM_appR {α β : Type} {f : α → Option β} {a b : List α} {z : List β} (h : (a ++ b).mapM f = some z) : ∃ x y, a.mapM f = some x ∧ b.mapM f = some y ∧ z = x ++ y := by
  rw [List.mapM_append] at h
  cases ha : a.mapM f with
  | none => simp [ha] at h
  | some x =>
    cases hb : b.mapM f with
    | none => simp [ha, hb] at h
    | some y =>
      simp [ha, hb] at h
      exact ⟨x, y, rfl, rfl, h.symm⟩

theorem mapM_one {α β : Type} (f : α → Option β) (a : α) : [a].mapM f = (f a).map fun x => [x] := by
  simp [List.mapM_cons]
  cases f a <;> rfl

theorem toksF_sub (n : Nat) (s : List UInt8) : ∀ t, t ∈ (toksF n s).1 → ∀ c, c ∈ t → c ∈ s := by
  induction n generalizing s with
  | zero => simp [toksF]
  | succ n ih =>
    rw [toksF]
    have hsub : ∀ c, c ∈ trimB s → c ∈ s := fun c hc => (List.dropWhile_sublist _).subset hc
    cases ht : trimB s with
    | nil => simp
    | cons a r =>
      rw [ht] at hsub
      dsimp only
      cases hp : partN (a :: r) with
      | none => simp
      | some k =>
        dsimp only
        intro t hm c hc
        rcases List.mem_cons.1 hm with rfl | hm
        · exact hsub c (List.mem_of_mem_take hc)
        · exact hsub c (List.mem_of_mem_drop (ih _ t hm c hc))

theorem toks_sub (s : List UInt8) : ∀ t, t ∈ (toks s).1 → ∀ c, c ∈ t → c ∈ s := toksF_sub _ _

theorem firstH_le {x : OperT} {l : List (Nat × List (List RelT))} (h : ∀ y, y ∈ l → y.1 ≤ 4) : (firstH x l = 5 ∧ ∀ y, y ∈ l → condH x y.2 = false) ∨ (firstH x l ≤ 4 ∧ ∀ z, firstH x (l ++ z) = firstH x l) := by
  induction l with
  | nil => exact .inl ⟨rfl, by simp⟩
  | cons y l ih =>
    by_cases hy : condH x y.2 = true
    · refine .inr ⟨by rw [firstH, if_pos hy]; exact h y (by simp), fun z => ?_⟩
      rw [List.cons_append, firstH, if_pos hy, firstH, if_pos hy]
    · have hy' : condH x y.2 = false := by simpa using hy
      rcases ih (fun y hy => h y (by simp [hy])) with ⟨h1, h2⟩ | ⟨h1, h2⟩
      · refine .inl ⟨by rw [firstH, if_neg hy]; exact h1, fun u hu => ?_⟩
        rcases List.mem_cons.1 hu with rfl | hu
        · exact hy'
        · exact h2 u hu
      · refine .inr ⟨by rw [firstH, if_neg hy]; exact h1, fun z => ?_⟩
        rw [List.cons_append, firstH, if_neg hy, h2, firstH, if_neg hy]

theorem firstH_app {x : OperT} {l z : List (Nat × List (List RelT))} (h : ∀ y, y ∈ l → condH x y.2 = false) : firstH x (l ++ z) = firstH x z := by
  induction l with
  | nil => rfl
  | cons y l ih =>
    rw [List.cons_append, firstH, if_neg (by rw [h y (by simp)]; simp)]
    exact ih (fun u hu => h u (by simp [hu]))

theorem ruleT_le {r : List Tok} {y : Nat × List (List RelT)} (h : ruleT r = some y) : y.1 ≤ 4 := by
  have h6 := ruleT_lt h
  unfold ruleT at h
  split at h
  · rename_i c d r'
    split at h
    · cases hc : catT c with
      | none => simp [hc] at h
      | some k =>
        cases ha : condT r' with
        | none => simp [hc, ha] at h
        | some a =>
          simp only [hc, ha] at h
          split at h
          · cases h
          · rename_i hk
            simp only [Option.some.injEq] at h
            subst h
            dsimp only at h6 ⊢
            omega
    · cases h
  · cases h

theorem rulesT_rows {s : List UInt8} {l : List (Nat × List (List RelT))} (h : rulesT s = some l) : (toks s).2 = false ∧ (((toks s).1 = [] ∧ l = []) ∨ ((toks s).1 ≠ [] ∧ (splitT [59] (toks s).1).mapM ruleT = some l ∧ unlike l = true)) := by
  unfold rulesT at h
  split at h
  · cases h
  · rename_i h2
    refine ⟨by simpa using h2, ?_⟩
    split at h
    · rename_i h1
      simp only [Option.some.injEq] at h
      exact .inl ⟨h1, h.symm⟩
    · rename_i h1
      unfold onlyU at h
      cases hm : (splitT [59] (toks s).1).mapM ruleT with
      | none => simp [hm] at h
      | some l' =>
        simp only [hm] at h
        split at h
        · rename_i hu
          simp only [Option.some.injEq] at h
          subst h
          exact .inr ⟨h1, rfl, hu⟩
        · cases h

theorem rulesT_le {s : List UInt8} {l : List (Nat × List (List RelT))} (h : rulesT s = some l) : ∀ y, y ∈ l → y.1 ≤ 4 := by
  rcases (rulesT_rows h).2 with ⟨_, rfl⟩ | ⟨_, hm, _⟩
  · simp
  · intro y hy
    obtain ⟨t, _, ht⟩ := mapM_mem hm y hy
    exact ruleT_le ht

end Go.Proofs.YthkkndaednienaaGreatDoor

namespace Go.Proofs.YthkkndaednienaaGreatDoor
open Go.RowKit

theorem brk58 : Brk 58 := ⟨by decide, by decide, by decide, by decide⟩
theorem brk59 : Brk 59 := ⟨by decide, by decide, by decide, by decide⟩
def oneC : List UInt8 := [111, 110, 101, 58, 32]
def zeroC : List UInt8 := [59, 32, 122, 101, 114, 111, 58, 32]

theorem toks_one (C : List UInt8) : toks (oneC ++ C) = ([111, 110, 101] :: [58] :: (toks C).1, (toks C).2) := by
  have e : oneC ++ C = [111, 110, 101] ++ 58 :: (32 :: C) := rfl
  rw [e, toks_app _ _ _ brk58, show toks [111, 110, 101] = ([[111, 110, 101]], false) by kernel_rfl, toks_sign 58 _ (by decide) (by decide) (by decide) (by decide) (by decide) (by decide), toks_blank]
  rfl

theorem toks_zero (A C : List UInt8) (h : (toks A).2 = false) : toks (A ++ zeroC ++ C) = ((toks A).1 ++ [59] :: [122, 101, 114, 111] :: [58] :: (toks C).1, (toks C).2) := by
  have e : A ++ zeroC ++ C = A ++ 59 :: (32 :: ([122, 101, 114, 111] ++ 58 :: (32 :: C))) := by rw [List.append_assoc]; rfl
  have hz : toks ([122, 101, 114, 111] ++ 58 :: (32 :: C)) = ([122, 101, 114, 111] :: [58] :: (toks C).1, (toks C).2) := by
    rw [toks_app _ _ _ brk58, show toks [122, 101, 114, 111] = ([[122, 101, 114, 111]], false) by kernel_rfl, toks_sign 58 _ (by decide) (by decide) (by decide) (by decide) (by decide) (by decide), toks_blank]
    rfl
  rw [e, toks_app _ _ _ brk59, if_neg (by rw [h]; simp), toks_sign 59 _ (by decide) (by decide) (by decide) (by decide) (by decide) (by decide), toks_blank, hz]

theorem no_semi {C : List UInt8} (h : (59 : UInt8) ∉ C) : ([59] : Tok) ∉ (toks C).1 := fun hm => h (toks_sub C [59] hm 59 (by simp))

theorem one_rule {C : List UInt8} {l1 : List (Nat × List (List RelT))} (h : rulesT (oneC ++ C) = some l1) (hC : (59 : UInt8) ∉ C) : (toks C).2 = false ∧ ∃ cd, condT (toks C).1 = some cd ∧ l1 = [(1, cd)] := by
  obtain ⟨h2, hh⟩ := rulesT_rows h
  rw [toks_one] at h2 hh
  refine ⟨h2, ?_⟩
  rcases hh with ⟨he, _⟩ | ⟨_, hm, _⟩
  · cases he
  · rw [splitT_none [59] _ (by
      intro hm
      simp only [List.mem_cons] at hm
      rcases hm with hm | hm | hm
      · exact absurd hm (by decide)
      · exact absurd hm (by decide)
      · exact no_semi hC hm), mapM_one] at hm
    simp only [Option.map_eq_some_iff] at hm
    obtain ⟨y, hy, rfl⟩ := hm
    simp only [ruleT, if_true, show catT [111, 110, 101] = some 1 by decide] at hy
    cases hc : condT (toks C).1 with
    | none => simp [hc] at hy
    | some cd =>
      simp [hc] at hy
      exact ⟨cd, rfl, by rw [← hy]⟩

theorem order_core {A C : List UInt8} {l l1 l2 : List (Nat × List (List RelT))} (h1 : rulesT A = some l) (h2 : rulesT (oneC ++ C) = some l1) (h3 : rulesT (A ++ zeroC ++ C) = some l2) (hC : (59 : UInt8) ∉ C) : ∃ cd, l1 = [(1, cd)] ∧ l2 = l ++ [(0, cd)] := by
  obtain ⟨_, cd, hcd, hl1⟩ := one_rule h2 hC
  refine ⟨cd, hl1, ?_⟩
  obtain ⟨hA, hh⟩ := rulesT_rows h1
  obtain ⟨_, h3'⟩ := rulesT_rows h3
  rw [toks_zero A C hA] at h3'
  rcases h3' with ⟨he, _⟩ | ⟨_, hm, _⟩
  · simp at he
  · rw [splitT_app] at hm
    obtain ⟨x, y, hx, hy, rfl⟩ := mapM_appR hm
    rw [splitT_none [59] _ (by
      intro hm
      simp only [List.mem_cons] at hm
      rcases hm with hm | hm | hm
      · exact absurd hm (by decide)
      · exact absurd hm (by decide)
      · exact no_semi hC hm), mapM_one] at hy
    simp only [Option.map_eq_some_iff] at hy
    obtain ⟨z, hz, rfl⟩ := hy
    simp only [ruleT, if_true, show catT [122, 101, 114, 111] = some 0 by decide, hcd] at hz
    simp at hz
    rcases hh with ⟨hn, _⟩ | ⟨_, hm1, _⟩
    · rw [hn] at hx
      simp [splitT, ruleT] at hx
    · rw [hm1, Option.some.injEq] at hx
      rw [hx, ← hz]

open Classical in
theorem order_pick {A C : List UInt8} {x : OperT} (hC : (59 : UInt8) ∉ C) (e1 : (pickT A x).2 = 0) (e2 : (pickT (oneC ++ C) x).2 = 0) (e3 : (pickT (A ++ zeroC ++ C) x).2 = 0) :
    ((pickT A x).1 ≠ 5 → (pickT (A ++ zeroC ++ C) x).1 = (pickT A x).1) ∧ ((pickT A x).1 = 5 → ((pickT (oneC ++ C) x).1 = 1 ∧ (pickT (A ++ zeroC ++ C) x).1 = 0) ∨ ((pickT (oneC ++ C) x).1 ≠ 1 ∧ (pickT (A ++ zeroC ++ C) x).1 = 5)) := by
  have key : ∀ s, (pickT s x).2 = 0 → ∃ l, rulesT s = some l ∧ (pickT s x).1 = (firstH x l : Int) := by
    intro s h
    unfold pickT at h ⊢
    split at h
    · exact absurd h (by decide)
    · rename_i hs
      rw [if_neg hs]
      cases hr : rulesT s with
      | none => rw [hr] at h; exact absurd (show (90 : Int) = 0 from h) (by decide)
      | some l =>
        rw [hr] at h
        dsimp only at h ⊢
        by_cases hm : MayO x
        · rw [if_pos hm]; exact ⟨l, rfl, rfl⟩
        · rw [if_neg hm] at h; exact absurd (show (92 : Int) = 0 from h) (by decide)
  obtain ⟨l, r1, p1⟩ := key _ e1
  obtain ⟨l1, r2, p2⟩ := key _ e2
  obtain ⟨l2, r3, p3⟩ := key _ e3
  obtain ⟨cd, rfl, rfl⟩ := order_core r1 r2 r3 hC
  rw [p1, p2, p3]
  rcases firstH_le (x := x) (rulesT_le r1) with ⟨q1, q2⟩ | ⟨q1, q2⟩
  · refine ⟨fun h => absurd (by rw [q1]; rfl) h, fun _ => ?_⟩
    rw [firstH_app q2]
    by_cases hc : condH x cd = true
    · exact .inl ⟨by rw [firstH, if_pos hc]; rfl, by rw [firstH, if_pos hc]; rfl⟩
    · exact .inr ⟨by rw [firstH, if_neg hc]; show (5 : Int) ≠ 1; decide, by rw [firstH, if_neg hc]; rfl⟩
  · refine ⟨fun _ => by rw [q2], fun h => ?_⟩
    omega

end Go.Proofs.YthkkndaednienaaGreatDoor

namespace Go.Proofs.YthkkndaednienaaGreatDoor
open Go.RowKit

theorem bys_cat (a b : ByteArray) : bys (a ++ b) = bys a ++ bys b := by
  unfold bys
  rw [ByteArray.data_append, Array.toList_append]

set_option maxHeartbeats 1000000 in
theorem alone_any (s i : ByteArray) (v z : Int) (f t : ByteArray) (e : Int) (w : World) (hs : s.size ≤ 4611686018427387904) (he : Evs w) : Calls Tryz.prog 26 #[.string s, opV i v z f t e] w fun e' w' => e' = .returned (.tuple #[.bool ((pickT (oneC ++ bys s) ⟨bys i, v, z, bys f, bys t, e⟩).1 == 1), .bool ((pickT (oneC ++ bys s) ⟨bys i, v, z, bys f, bys t, e⟩).2 == 0)]) ∧ Below w.heap.size w w' := by
  have HB : Hid (Below w.heap.size w (w.alloc (.cells #[.string i, .int .i64 v, .int .i64 z, .string f, .string t, .int .i64 e] 37))) := (Below.refl _ _).alloc (Nat.le_refl _) _
  have PK := hide (Pick_any (⟨#[111, 110, 101, 58, 32]⟩ ++ s) i v z f t e (w.alloc (.cells #[.string i, .int .i64 v, .int .i64 z, .string f, .string t, .int .i64 e] 37)) (he.below HB.out))
  rw [bys_cat, show bys ⟨#[111, 110, 101, 58, 32]⟩ = oneC from rfl] at PK
  generalize pickT (oneC ++ bys s) ⟨bys i, v, z, bys f, bys t, e⟩ = q at *
  obtain ⟨q1, q2⟩ := q
  dsimp only at PK ⊢
  have h5' : ¬ 9223372036854775807 < (⟨#[111, 110, 101, 58, 32]⟩ : ByteArray).size + s.size := by
    rw [show (⟨#[111, 110, 101, 58, 32]⟩ : ByteArray).size = 5 from rfl]; omega
  clear he
  go_enter Tryz.func26, Tryz.ntmps26
  go_wp2_with fail
  refine PK.out.mono ?_
  rintro e' w1 ⟨rfl, hb⟩
  have HB1 := hide (HB.out.trans (hb.mono HB.out.size))
  clear hb PK HB
  go_wp2
  refine bodyPost_ret (results_tmp2 rfl _ _ _) rfl ?_
  exact ⟨rfl, HB1.out⟩

end Go.Proofs.YthkkndaednienaaGreatDoor

namespace Go.Proofs.YthkkndaednienaaGreatDoor
open Go.RowKit

set_option maxRecDepth 100000 in
set_option maxHeartbeats 4000000 in
theorem order_walk (s c i : ByteArray) (v z : Int) (f t : ByteArray) (e : Int) (w : World) (hs : s.size ≤ 4611686018427387000) (hc : c.size ≤ 4611686018427387000) (he : Evs w) :
    Calls Tryz.prog 8 #[.string s, .string c, opV i v z f t e] w fun e' w' => e' = .returned (.bool true) ∧ Below w.heap.size w w' := by
  have HE := hide he
  have HB0 : Hid (Below w.heap.size w (w.alloc (.cells #[.string i, .int .i64 v, .int .i64 z, .string f, .string t, .int .i64 e] 37))) := (Below.refl _ _).alloc (Nat.le_refl _) _
  have BX0 := hide (Blk.newAt w w.heap.size rfl #[.string i, .int .i64 v, .int .i64 z, .string f, .string t, .int .i64 e] 37)
  have K1 := hide (fun X (h : Below w.heap.size w X) => Pick_any s i v z f t e X (HE.out.below h))
  have K2 := hide (fun X (h : Below w.heap.size w X) => alone_any c i v z f t e X (by omega) (HE.out.below h))
  have K3 := hide (fun X (h : Below w.heap.size w X) => awake09 X (HE.out.below h))
  have K4 := hide (fun X (h : Below w.heap.size w X) => Pick_any (s ++ ⟨#[59, 32, 122, 101, 114, 111, 58, 32]⟩ ++ c) i v z f t e X (HE.out.below h))
  rw [bys_cat, bys_cat, show bys ⟨#[59, 32, 122, 101, 114, 111, 58, 32]⟩ = zeroC from rfl] at K4
  have HO := hide (fun (h : (59 : UInt8) ∉ bys c) (h1 : (pickT (bys s) ⟨bys i, v, z, bys f, bys t, e⟩).2 = 0) (h2 : (pickT (oneC ++ bys c) ⟨bys i, v, z, bys f, bys t, e⟩).2 = 0) (h3 : (pickT (bys s ++ zeroC ++ bys c) ⟨bys i, v, z, bys f, bys t, e⟩).2 = 0) => order_pick h h1 h2 h3)
  generalize pickT (bys s) ⟨bys i, v, z, bys f, bys t, e⟩ = A at *
  generalize pickT (oneC ++ bys c) ⟨bys i, v, z, bys f, bys t, e⟩ = P at *
  generalize pickT (bys s ++ zeroC ++ bys c) ⟨bys i, v, z, bys f, bys t, e⟩ = B at *
  obtain ⟨A1, A2⟩ := A
  obtain ⟨P1, P2⟩ := P
  obtain ⟨B1, B2⟩ := B
  dsimp only at K1 K2 K4 HO
  obtain ⟨hol, hhol⟩ : ∃ q, q = (P1 == 1) := ⟨_, rfl⟩
  obtain ⟨iss, hiss⟩ : ∃ q, q = (P2 == 0) := ⟨_, rfl⟩
  rw [← hhol, ← hiss] at K2
  have HHOL := hide hhol
  have HISS := hide hiss
  have zl : (⟨#[59, 32, 122, 101, 114, 111, 58, 32]⟩ : ByteArray).size = 8 := rfl
  have h5 : ¬ 9223372036854775807 < s.size + (⟨#[59, 32, 122, 101, 114, 111, 58, 32]⟩ : ByteArray).size := by rw [zl]; omega
  have h6 : ¬ 9223372036854775807 < (s ++ ⟨#[59, 32, 122, 101, 114, 111, 58, 32]⟩ : ByteArray).size + c.size := by rw [ByteArray.size_append, zl]; omega
  have h7 : ¬ 9223372036854775807 < s.size + 8 + c.size := by omega
  clear he hhol hiss zl
  go_enter Tryz.func8, Tryz.ntmps8
  obtain ⟨o0, o1, o2, o3, o4, o5⟩ := BX0.out.six
  go_wp2_with fail
  refine (K1.out _ HB0.out).mono ?_
  rintro e' w1 ⟨rfl, hb⟩
  have HB1 := hide (HB0.out.trans (hb.mono HB0.out.size))
  have BX1 := Blk.on BX0 hb
  clear hb K1 HB0 BX0 o0 o1 o2 o3 o4 o5
  obtain ⟨o0, o1, o2, o3, o4, o5⟩ := BX1.out.six
  go_wp2_with fail
  refine (K2.out _ HB1.out).mono ?_
  rintro e' w2 ⟨rfl, hb⟩
  have HB2 := hide (HB1.out.trans (hb.mono HB1.out.size))
  have BX2 := Blk.on BX1 hb
  clear hb K2 HB1 BX1 o0 o1 o2 o3 o4 o5
  obtain ⟨o0, o1, o2, o3, o4, o5⟩ := BX2.out.six
  go_wp2_with fail
  refine (K3.out _ HB2.out).mono ?_
  rintro e' w3 ⟨rfl, hb⟩
  have HB3 := hide (HB2.out.trans (hb.mono HB2.out.size))
  have BX3 := Blk.on BX2 hb
  clear hb K3 HB2 BX2 o0 o1 o2 o3 o4 o5
  obtain ⟨o0, o1, o2, o3, o4, o5⟩ := BX3.out.six
  go_wp2_with fail
  refine (K4.out _ HB3.out).mono ?_
  rintro e' w4 ⟨rfl, hb⟩
  have HB4 := hide (HB3.out.trans (hb.mono HB3.out.size))
  have BX4 := Blk.on BX3 hb
  clear hb K4 HB3 BX3 o0 o1 o2 o3 o4 o5
  have HG : Hid (∀ k (h : k < c.size), c[k].toNat = byt (bys c) k) := fun k h => byt_get c k h
  go_wp2
  go_loopw [13] (fun p wr => ∃ k : Nat, k ≤ c.size ∧ p = .int .i64 (k : Int) ∧ wr = w4 ∧ Hid (∀ j, j < k → byt (bys c) j ≠ 59)) (fun p _ => c.size - (intOf p).toNat)
  case atStart => exact ⟨0, Nat.zero_le _, rfl, rfl, fun j h => by omega⟩
  case round =>
    obtain ⟨k, hk, rfl, hw, HNO⟩ := hrel
    replace hw := hw.symm
    subst hw
    by_cases hlt : k < c.size
    · have hlt' : (k : Int) < (c.size : Int) := by omega
      have hg : ∀ h : k < c.size, c[k].toNat = byt (bys c) k := fun h => HG.out k h
      obtain ⟨b, hbb⟩ : ∃ b, b = byt (bys c) k := ⟨_, rfl⟩
      rw [← hbb] at hg
      by_cases h59 : b = 59
      · subst h59
        clear hbb HG HNO
        go_wp2
        go_ret
        exact ⟨rfl, HB4.out⟩
      · have hq : ((b : Int) == 59) = false := beq_eq_false_iff_ne.2 (by omega)
        have HNO2 : Hid (∀ j, j < k + 1 → byt (bys c) j ≠ 59) := by
          intro j hj
          by_cases hj' : j < k
          · exact HNO.out j hj'
          · obtain rfl : j = k := by omega
            rw [← hbb]; exact h59
        clear hbb h59 HG
        go_wp2
        exact ⟨⟨k + 1, by omega, by go_num, trivial, HNO2⟩, by simp [intOf]; omega⟩
    · obtain rfl : k = c.size := by omega
      have hlt' : ¬ (c.size : Int) < (c.size : Int) := by omega
      have hno : (59 : UInt8) ∉ bys c := by
        intro hm
        obtain ⟨j, hj, he⟩ := List.getElem_of_mem hm
        rw [bys_len] at hj
        refine HNO.out j hj ?_
        unfold byt
        rw [List.getElem?_eq_getElem (by rw [bys_len]; exact hj), he]
        rfl
      have HO2 := hide (HO.out hno)
      clear HNO HG HO hno
      by_cases hA2 : A2 = 0
      · subst hA2
        by_cases hB2 : B2 = 0
        · subst hB2
          by_cases hP2 : P2 = 0
          · subst hP2
            obtain rfl : iss = true := HISS.out
            by_cases hs0 : s.size = 0
            · obtain rfl : s = ⟨#[]⟩ := by
                cases s with
                | mk d => cases d with
                  | mk l => have : l = [] := List.eq_nil_of_length_eq_zero hs0
                            subst this; rfl
              clear HO2 HISS HHOL
              go_wp2
              go_ret
              exact ⟨rfl, HB4.out⟩
            · have hsq := toList_ne hs0
              obtain ⟨g1, g2⟩ := HO2.out rfl rfl rfl
              have G1 := hide g1
              have G2 := hide g2
              clear g1 g2 HO2 HISS hs0
              by_cases hA5 : A1 = 5
              · subst hA5
                rcases G2.out rfl with ⟨k1, k2⟩ | ⟨k1, k2⟩
                · subst k1
                  subst k2
                  obtain rfl : hol = true := HHOL.out
                  clear G1 G2 HHOL
                  go_wp2
                  go_ret
                  exact ⟨rfl, HB4.out⟩
                · subst k2
                  obtain rfl : hol = false := by rw [HHOL.out]; exact beq_eq_false_iff_ne.2 k1
                  clear G1 G2 HHOL k1
                  go_wp2
                  go_ret
                  exact ⟨rfl, HB4.out⟩
              · have k2 := G1.out hA5
                subst k2
                have hq5 : (B1 != 5) = true := by rw [bne_iff_ne]; exact hA5
                have hq6 : (B1 == B1) = true := by simp
                clear G1 G2 HHOL hA5
                go_wp2
                go_ret
                exact ⟨rfl, HB4.out⟩
          · obtain rfl : iss = false := by rw [HISS.out]; exact beq_eq_false_iff_ne.2 hP2
            clear HO2 HISS HHOL hP2
            go_wp2
            go_ret
            exact ⟨rfl, HB4.out⟩
        · have hq : (B2 != 0) = true := by rw [bne_iff_ne]; exact hB2
          clear HO2 HISS HHOL hB2
          go_wp2
          go_ret
          exact ⟨rfl, HB4.out⟩
      · have hq : (A2 != 0) = true := by rw [bne_iff_ne]; exact hA2
        clear HO2 HISS HHOL hA2
        go_wp2
        go_ret
        exact ⟨rfl, HB4.out⟩


theorem order_row (w : World) (he : Evs w) (s : ByteArray) (hs : s.size ≤ 140737488355328) (c : ByteArray) (hc : c.size ≤ 140737488355328) (i : ByteArray) (v z : Int) (f t : ByteArray) (e : Int) (_ : i.size ≤ 140737488355328) (_ : f.size ≤ 140737488355328) (_ : t.size ≤ 140737488355328) :
    Calls Tryz.prog 8 #[.string s, .string c, .agg #[.string i, .int .i64 v, .int .i64 z, .string f, .string t, .int .i64 e]] w fun e' w' => e' = .returned (.bool true) ∧ Below w.heap.size w w' :=
  order_walk s c i v z f t e w (by omega) (by omega) he

end Go.Proofs.YthkkndaednienaaGreatDoor

namespace Go.Proofs.YthkkndaednienaaGreatDoor
open Go.RowKit

def tabVals : DataW Unit → Array Value
  | .agg l => (l.flatMap fun
      | .lit (.int k z) => [Value.int k z]
      | .agg l2 => l2.map fun
        | .lit (.int k z) => Value.int k z
        | _ => .int .u8 0
      | _ => []).toArray
  | _ => #[]

def putVals (d : DataW Unit) : Obj → Obj
  | .cells _ t frozen => .cells (tabVals d) t frozen
  | o => o

def errText : DataW Unit → ByteArray
  | .iface _ (.ptr (.agg [.lit (.string l)])) => ⟨l.toArray⟩
  | _ => ⟨#[]⟩

def putErr (b : Nat) : Obj → Obj
  | .cells _ t frozen => .cells #[.iface 288 (.pointer (some ⟨b, 0, none⟩))] t frozen
  | o => o

noncomputable def laidWorld (os : Os) : World :=
  { World.holding Tryz.prog os ⟨#[], #[], []⟩ with
    heap := (((((((((World.holding Tryz.prog os ⟨#[], #[], []⟩).heap.modify 8 (putVals Rows.laid_math_bits_deBruijn32tab)).modify 9 (putVals Rows.laid_math_bits_deBruijn64tab)).modify 3 (putVals Rows.laid_internal_strconv_uint64pow10)).modify 5 (putVals Rows.laid_unicode_utf8_acceptRanges)).modify 4 (putVals Rows.laid_unicode_utf8_first)).modify 1 (putErr (World.holding Tryz.prog os ⟨#[], #[], []⟩).heap.size)).modify 0 (putErr ((World.holding Tryz.prog os ⟨#[], #[], []⟩).heap.size + 1))).push (.cells #[.string (errText Rows.laid_strconv_ErrRange)] 290)).push (.cells #[.string (errText Rows.laid_strconv_ErrSyntax)] 290) }

end Go.Proofs.YthkkndaednienaaGreatDoor

namespace Go.Proofs.YthkkndaednienaaGreatDoor
open Go.RowKit

theorem evs_of_trod {W : World} {nm : String} {cs : Array Value} {fuel : Nat} {p : List MemPlace} {name : String} {d : DataW Unit} {t : TypeId} (hv : W.var? Tryz.prog nm = some cs) (ht : t = 107)
    (hd : DataW.trod (fun _ => ()) Tryz.prog W 0 (fun _ => true) false fuel t cs.toList = some (.iface name d, p)) : ∃ tp q, W.var? Tryz.prog nm = some #[.iface tp q] := by
  subst ht
  obtain ⟨_, u, v, hc, _, _⟩ := iface_of_trod Tryz.underlying107 hd
  obtain rfl : cs = #[.iface u v] := by cases cs; simp_all
  exact ⟨u, v, hv⟩

theorem teR : (Tryz.prog.globalNamed "strconv.ErrRange").bind (fun g => (Tryz.prog.globals[g]?).map (·.type)) = some 107 := by kernel_rfl
theorem teS : (Tryz.prog.globalNamed "strconv.ErrSyntax").bind (fun g => (Tryz.prog.globals[g]?).map (·.type)) = some 107 := by kernel_rfl

theorem evs {W : World} (h : laidMetH Tryz.prog [("math/bits.deBruijn32tab", Rows.laid_math_bits_deBruijn32tab), ("math/bits.deBruijn64tab", Rows.laid_math_bits_deBruijn64tab), ("internal/strconv.uint64pow10", Rows.laid_internal_strconv_uint64pow10), ("unicode/utf8.acceptRanges", Rows.laid_unicode_utf8_acceptRanges), ("strconv.ErrRange", Rows.laid_strconv_ErrRange), ("strconv.ErrSyntax", Rows.laid_strconv_ErrSyntax), ("unicode/utf8.first", Rows.laid_unicode_utf8_first)] W) : Evs W := by
  have h' : laidMet Tryz.prog [("math/bits.deBruijn32tab", Rows.laid_math_bits_deBruijn32tab), ("math/bits.deBruijn64tab", Rows.laid_math_bits_deBruijn64tab), ("internal/strconv.uint64pow10", Rows.laid_internal_strconv_uint64pow10), ("unicode/utf8.acceptRanges", Rows.laid_unicode_utf8_acceptRanges), ("strconv.ErrRange", Rows.laid_strconv_ErrRange), ("strconv.ErrSyntax", Rows.laid_strconv_ErrSyntax), ("unicode/utf8.first", Rows.laid_unicode_utf8_first)] W := h
  obtain ⟨ps, ⟨_, _, _, _, _, q1, _, _, _, _, ⟨_, _, _, _, _, q2, _, _, _, _, ⟨_, _, _, _, _, q3, _, _, _, _, ⟨_, _, _, _, _, q4, _, _, _, _, ⟨g5, t5, c5, f5, p5, q5, hg5, ht5, hv5, hd5, ⟨g6, t6, c6, f6, p6, q6, hg6, ht6, hv6, hd6, _, _⟩, _⟩, _⟩, _⟩, _⟩, _⟩, _⟩ := h'
  have e5 := teR
  rw [hg5] at e5
  have e6 := teS
  rw [hg6] at e6
  exact ⟨evs_of_trod hv6 (Option.some.inj (ht6.symm.trans e6)) hd6, evs_of_trod hv5 (Option.some.inj (ht5.symm.trans e5)) hd5⟩

end Go.Proofs.YthkkndaednienaaGreatDoor
