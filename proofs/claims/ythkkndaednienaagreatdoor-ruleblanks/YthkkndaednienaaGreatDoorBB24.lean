/-
  What rule's PickRange does.
  quipulaw09's awake answers true.
  The parts of texts that are joined; rows of parts that are joined.
  A rule more at the end, in plain words.
  What quipulaw09's alone does; RuleOrder.
  Blanks ahead of signs change no part of a text.
  Lists of bytes in blocks of their own, out of a conversion or an append: an append to one; what a conversion makes.
  Texts and lists of bytes: conversions, there and back.
  RuleBlanks answers true.
  What the rows' list of package variables gives, and a world that holds them.
  What the rows' list of package variables gives of the two errors of strconv.
-/
import Derived.Test.YthkkndaednienaaGreatDoorBB21
import Derived.Test.YthkkndaednienaaGreatDoorBB20
import Derived.Test.YthkkndaednienaaGreatDoorBB12
import Derived.ArgAppend
import Derived.Lib.ConvBytes
import Derived.Laws.BytesArg
import Derived.Test.YthkkndaednienaaGreatDoorRows
import Derived.Test.YthkkndaednienaaGreatDoorBB6
import Derived.Lib.LaidTab
import Derived.Deep.DeepHandedRow
import Derived.Test.YthkkndaednienaaGreatDoorBB15
namespace Go.Proofs.YthkkndaednienaaGreatDoor
open Go.RowKit

def rpickT (s : List UInt8) (a b : Int) : Int × Int := if 1024 < s.length then (0, 91) else match entriesT s with
  | none => (0, 90)
  | some l => if (0 ≤ a ∧ a < 6) ∧ (0 ≤ b ∧ b < 6) then ((entryH a.toNat b.toNat l : Int), 0) else (0, 1)

theorem PickRange_long (s : ByteArray) (a b : Int) (w : World) (h : 1024 < s.size) : Calls Tryz.prog 22 #[.string s, .int .i64 a, .int .i64 b] w fun e' w' => e' = .returned (.tuple #[.int .i64 0, .int .i64 91]) ∧ Below w.heap.size w w' := by
  have hmf : ∀ (fn : Fn) (first cap : Array Value) (w : World), (Instr.makeFunc fn first cap).run Tryz.prog w = .ok (.func fn first cap) w := fun _ _ _ _ => rfl
  have h' : 1024 < (s.size : Int) := by omega
  go_enter_defers Tryz.func22, Tryz.ntmps22
  go_wp2
  refine leaves_cons (f := 59) (args := #[.pointer (some ⟨w.heap.size, 0, none⟩), .pointer (some ⟨w.heap.size + 1, 0, none⟩)]) (by simp) (by simp [go_sem]) ?_
  refine (idle_PickRange ⟨w.heap.size, 0, none⟩ ⟨w.heap.size + 1, 0, none⟩ _).mono ?_
  rintro e' u' w'' ⟨rfl, rfl, rfl⟩
  simp [Leaves, settle, results, Tryz.results22, go_sem]
  exact ((Below.refl _ _).alloc (Nat.le_refl _) _).alloc (by simp) _

theorem PickRange_no (s : ByteArray) (a b : Int) (w : World) (h : s.size ≤ 1024) (he : Evs w) (hr : entriesT (bys s) = none) : Calls Tryz.prog 22 #[.string s, .int .i64 a, .int .i64 b] w fun e' w' => e' = .returned (.tuple #[.int .i64 0, .int .i64 90]) ∧ Below w.heap.size w w' := by
  have hmf : ∀ (fn : Fn) (first cap : Array Value) (w : World), (Instr.makeFunc fn first cap).run Tryz.prog w = .ok (.func fn first cap) w := fun _ _ _ _ => rfl
  have h' : ¬ 1024 < (s.size : Int) := by omega
  have HB : Hid (Below w.heap.size w ((w.alloc (.cells #[.int .i64 0] 3)).alloc (.cells #[.int .i64 0] 24))) := ((Below.refl _ _).alloc (Nat.le_refl _) _).alloc (by simp) _
  have BC := hide (Blk.alloc (Blk.newAt w w.heap.size rfl #[.int .i64 0] 3) (.cells #[.int .i64 0] 24))
  have BE := hide (Blk.newAt (w.alloc (.cells #[.int .i64 0] 3)) (w.heap.size + 1) (by simp) #[.int .i64 0] 24)
  have RR := hide (readEntries_any s ((w.alloc (.cells #[.int .i64 0] 3)).alloc (.cells #[.int .i64 0] 24)) h (he.below HB.out))
  rw [hr] at RR
  clear h he hr
  go_enter_defers Tryz.func22, Tryz.ntmps22
  go_wp2_with fail
  refine RR.out.mono ?_
  rintro e' w1 ⟨hb, rfl⟩
  have BC1 := Blk.on BC hb
  have BE1 := Blk.on BE hb
  have HB1 := hide (HB.out.trans (hb.mono HB.out.size))
  clear hb BC BE HB
  have cc0 := BC1.out.cell 0
  have ce0 := BE1.out.cell 0
  simp only [List.getElem?_toArray, List.getElem?_cons_zero] at cc0 ce0
  have fc0 := BC1.out.free 0
  have fe0 := BE1.out.free 0
  clear RR
  go_wp2
  refine leaves_cons (f := 59) (args := #[.pointer (some ⟨w.heap.size, 0, none⟩), .pointer (some ⟨w.heap.size + 1, 0, none⟩)]) (by simp) (by simp [go_sem]) ?_
  refine (catch_PickRange ⟨w.heap.size, 0, none⟩ ⟨w.heap.size + 1, 0, none⟩ _ _ _ _ [] _ (by simp) cc0 fc0 ce0 fe0).mono ?_
  rintro e' u' w'' ⟨rfl, rfl, rfl⟩
  have p1 := blk_setC BC1.out 0 (.int .i64 0)
  have p2 := Blk.other p1 (a := ⟨w.heap.size + 1, 0, none⟩) (by simp) (.int .i64 90)
  have p3 := blk_setC (Blk.other BE1.out (a := ⟨w.heap.size, 0, none⟩) (by simp) (.int .i64 0)) 0 (.int .i64 90)
  have q2 := p2.cell 0
  have q3 := p3.cell 0
  simp at q2 q3
  simp [Leaves, settle, results, Tryz.results22, go_sem, q2, q3]
  exact (HB1.out.setCell (p := ⟨w.heap.size, 0, none⟩) (Nat.le_refl _) _).setCell (p := ⟨w.heap.size + 1, 0, none⟩) (by simp) _

theorem PickRange_a (s : ByteArray) (a b : Int) (w : World) (h : s.size ≤ 1024) (he : Evs w) (l : List ((Nat × Nat) × Nat)) (hr : entriesT (bys s) = some l) (ha : ¬ (0 ≤ a ∧ a < 6)) : Calls Tryz.prog 22 #[.string s, .int .i64 a, .int .i64 b] w fun e' w' => e' = .returned (.tuple #[.int .i64 0, .int .i64 1]) ∧ Below w.heap.size w w' := by
  have hmf : ∀ (fn : Fn) (first cap : Array Value) (w : World), (Instr.makeFunc fn first cap).run Tryz.prog w = .ok (.func fn first cap) w := fun _ _ _ _ => rfl
  have h' : ¬ 1024 < (s.size : Int) := by omega
  have HB : Hid (Below w.heap.size w ((w.alloc (.cells #[.int .i64 0] 3)).alloc (.cells #[.int .i64 0] 24))) := ((Below.refl _ _).alloc (Nat.le_refl _) _).alloc (by simp) _
  have BC := hide (Blk.alloc (Blk.newAt w w.heap.size rfl #[.int .i64 0] 3) (.cells #[.int .i64 0] 24))
  have BE := hide (Blk.newAt (w.alloc (.cells #[.int .i64 0] 3)) (w.heap.size + 1) (by simp) #[.int .i64 0] 24)
  have RR := hide (readEntries_any s ((w.alloc (.cells #[.int .i64 0] 3)).alloc (.cells #[.int .i64 0] 24)) h (he.below HB.out))
  rw [hr] at RR
  have K0 := hide (fun X => isCat_F a X ha)
  clear ha
  clear h he hr
  go_enter_defers Tryz.func22, Tryz.ntmps22
  go_wp2_with fail
  refine RR.out.mono ?_
  rintro e' w1 ⟨hb, va, rfl, _⟩
  have BC1 := Blk.on BC hb
  have BE1 := Blk.on BE hb
  have HB1 := hide (HB.out.trans (hb.mono HB.out.size))
  clear hb BC BE HB
  clear RR
  go_wp2_with fail
  refine (K0.out _).mono ?_
  rintro e' w' ⟨rfl, rfl⟩
  have cc0 := BC1.out.cell 0
  have ce0 := BE1.out.cell 0
  simp only [List.getElem?_toArray, List.getElem?_cons_zero] at cc0 ce0
  have fc0 := BC1.out.free 0
  have fe0 := BE1.out.free 0
  go_wp2
  refine leaves_cons (f := 59) (args := #[.pointer (some ⟨w.heap.size, 0, none⟩), .pointer (some ⟨w.heap.size + 1, 0, none⟩)]) (by simp) (by simp [go_sem]) ?_
  refine (idle_PickRange ⟨w.heap.size, 0, none⟩ ⟨w.heap.size + 1, 0, none⟩ _).mono ?_
  rintro e' u' w'' ⟨rfl, rfl, rfl⟩
  have p1 := blk_setC BC1.out 0 (.int .i64 0)
  have p2 := Blk.other p1 (a := ⟨w.heap.size + 1, 0, none⟩) (by simp) (.int .i64 1)
  have p3 := blk_setC (Blk.other BE1.out (a := ⟨w.heap.size, 0, none⟩) (by simp) (.int .i64 0)) 0 (.int .i64 1)
  have q2 := p2.cell 0
  have q3 := p3.cell 0
  simp at q2 q3
  simp [Leaves, settle, results, Tryz.results22, go_sem, q2, q3]
  exact (HB1.out.setCell (p := ⟨w.heap.size, 0, none⟩) (Nat.le_refl _) _).setCell (p := ⟨w.heap.size + 1, 0, none⟩) (by simp) _

theorem PickRange_b (s : ByteArray) (a b : Int) (w : World) (h : s.size ≤ 1024) (he : Evs w) (l : List ((Nat × Nat) × Nat)) (hr : entriesT (bys s) = some l) (ha : 0 ≤ a ∧ a < 6) (hb : ¬ (0 ≤ b ∧ b < 6)) : Calls Tryz.prog 22 #[.string s, .int .i64 a, .int .i64 b] w fun e' w' => e' = .returned (.tuple #[.int .i64 0, .int .i64 1]) ∧ Below w.heap.size w w' := by
  have hmf : ∀ (fn : Fn) (first cap : Array Value) (w : World), (Instr.makeFunc fn first cap).run Tryz.prog w = .ok (.func fn first cap) w := fun _ _ _ _ => rfl
  have h' : ¬ 1024 < (s.size : Int) := by omega
  have HB : Hid (Below w.heap.size w ((w.alloc (.cells #[.int .i64 0] 3)).alloc (.cells #[.int .i64 0] 24))) := ((Below.refl _ _).alloc (Nat.le_refl _) _).alloc (by simp) _
  have BC := hide (Blk.alloc (Blk.newAt w w.heap.size rfl #[.int .i64 0] 3) (.cells #[.int .i64 0] 24))
  have BE := hide (Blk.newAt (w.alloc (.cells #[.int .i64 0] 3)) (w.heap.size + 1) (by simp) #[.int .i64 0] 24)
  have RR := hide (readEntries_any s ((w.alloc (.cells #[.int .i64 0] 3)).alloc (.cells #[.int .i64 0] 24)) h (he.below HB.out))
  rw [hr] at RR
  have K0 := hide (fun X => isCat_T a X ha)
  have K1 := hide (fun X => isCat_F b X hb)
  clear ha hb
  clear h he hr
  go_enter_defers Tryz.func22, Tryz.ntmps22
  go_wp2_with fail
  refine RR.out.mono ?_
  rintro e' w1 ⟨hb, va, rfl, _⟩
  have BC1 := Blk.on BC hb
  have BE1 := Blk.on BE hb
  have HB1 := hide (HB.out.trans (hb.mono HB.out.size))
  clear hb BC BE HB
  clear RR
  go_wp2_with fail
  refine (K0.out _).mono ?_
  rintro e' w' ⟨rfl, rfl⟩
  go_wp2_with fail
  refine (K1.out _).mono ?_
  rintro e' w' ⟨rfl, rfl⟩
  have cc0 := BC1.out.cell 0
  have ce0 := BE1.out.cell 0
  simp only [List.getElem?_toArray, List.getElem?_cons_zero] at cc0 ce0
  have fc0 := BC1.out.free 0
  have fe0 := BE1.out.free 0
  go_wp2
  refine leaves_cons (f := 59) (args := #[.pointer (some ⟨w.heap.size, 0, none⟩), .pointer (some ⟨w.heap.size + 1, 0, none⟩)]) (by simp) (by simp [go_sem]) ?_
  refine (idle_PickRange ⟨w.heap.size, 0, none⟩ ⟨w.heap.size + 1, 0, none⟩ _).mono ?_
  rintro e' u' w'' ⟨rfl, rfl, rfl⟩
  have p1 := blk_setC BC1.out 0 (.int .i64 0)
  have p2 := Blk.other p1 (a := ⟨w.heap.size + 1, 0, none⟩) (by simp) (.int .i64 1)
  have p3 := blk_setC (Blk.other BE1.out (a := ⟨w.heap.size, 0, none⟩) (by simp) (.int .i64 0)) 0 (.int .i64 1)
  have q2 := p2.cell 0
  have q3 := p3.cell 0
  simp at q2 q3
  simp [Leaves, settle, results, Tryz.results22, go_sem, q2, q3]
  exact (HB1.out.setCell (p := ⟨w.heap.size, 0, none⟩) (Nat.le_refl _) _).setCell (p := ⟨w.heap.size + 1, 0, none⟩) (by simp) _

theorem PickRange_yes (s : ByteArray) (a b : Nat) (w : World) (h : s.size ≤ 1024) (he : Evs w) (l : List ((Nat × Nat) × Nat)) (hr : entriesT (bys s) = some l) (ha : a < 6) (hb : b < 6) : Calls Tryz.prog 22 #[.string s, .int .i64 (a : Int), .int .i64 (b : Int)] w fun e' w' => e' = .returned (.tuple #[.int .i64 (entryH a b l : Int), .int .i64 0]) ∧ Below w.heap.size w w' := by
  have hmf : ∀ (fn : Fn) (first cap : Array Value) (w : World), (Instr.makeFunc fn first cap).run Tryz.prog w = .ok (.func fn first cap) w := fun _ _ _ _ => rfl
  have h' : ¬ 1024 < (s.size : Int) := by omega
  have HB : Hid (Below w.heap.size w ((w.alloc (.cells #[.int .i64 0] 3)).alloc (.cells #[.int .i64 0] 24))) := ((Below.refl _ _).alloc (Nat.le_refl _) _).alloc (by simp) _
  have BC := hide (Blk.alloc (Blk.newAt w w.heap.size rfl #[.int .i64 0] 3) (.cells #[.int .i64 0] 24))
  have BE := hide (Blk.newAt (w.alloc (.cells #[.int .i64 0] 3)) (w.heap.size + 1) (by simp) #[.int .i64 0] 24)
  have RR := hide (readEntries_any s ((w.alloc (.cells #[.int .i64 0] 3)).alloc (.cells #[.int .i64 0] 24)) h (he.below HB.out))
  rw [hr] at RR
  have K0 := hide (fun X => isCat_T (a : Int) X (by omega))
  have K1 := hide (fun X => isCat_T (b : Int) X (by omega))
  obtain ⟨R, hR⟩ : ∃ R, R = entryH a b l := ⟨_, rfl⟩
  rw [← hR]
  have HRR := hide hR
  clear h he hr hR ha hb
  go_enter_defers Tryz.func22, Tryz.ntmps22
  go_wp2_with fail
  refine RR.out.mono ?_
  rintro e' w1 ⟨hb, va, rfl, hls⟩
  obtain ⟨sa, sn, sc, rfl⟩ := Lst.slice hls
  have FF := hide (entryOf_any _ l sa sn sc a b w1 hls)
  rw [← HRR.out] at FF
  have BC1 := Blk.on BC hb
  have BE1 := Blk.on BE hb
  have HB1 := hide (HB.out.trans (hb.mono HB.out.size))
  clear hb BC BE HB
  clear RR hls HRR
  go_wp2_with fail
  refine (K0.out _).mono ?_
  rintro e' w' ⟨rfl, rfl⟩
  go_wp2_with fail
  refine (K1.out _).mono ?_
  rintro e' w' ⟨rfl, rfl⟩
  go_wp2_with fail
  refine FF.out.mono ?_
  rintro e' w2 ⟨rfl, hb⟩
  have BC2 := Blk.on BC1 hb
  have BE2 := Blk.on BE1 hb
  have HB2 := hide (HB1.out.trans (hb.mono HB1.out.size))
  clear hb BC1 BE1 HB1
  have cc0 := BC2.out.cell 0
  have ce0 := BE2.out.cell 0
  simp only [List.getElem?_toArray, List.getElem?_cons_zero] at cc0 ce0
  have fc0 := BC2.out.free 0
  have fe0 := BE2.out.free 0
  clear FF
  go_wp2
  refine leaves_cons (f := 59) (args := #[.pointer (some ⟨w.heap.size, 0, none⟩), .pointer (some ⟨w.heap.size + 1, 0, none⟩)]) (by simp) (by simp [go_sem]) ?_
  refine (idle_PickRange ⟨w.heap.size, 0, none⟩ ⟨w.heap.size + 1, 0, none⟩ _).mono ?_
  rintro e' u' w'' ⟨rfl, rfl, rfl⟩
  have p1 := blk_setC BC2.out 0 (.int .i64 (R : Int))
  have p2 := Blk.other p1 (a := ⟨w.heap.size + 1, 0, none⟩) (by simp) (.int .i64 0)
  have p3 := blk_setC (Blk.other BE2.out (a := ⟨w.heap.size, 0, none⟩) (by simp) (.int .i64 (R : Int))) 0 (.int .i64 0)
  have q2 := p2.cell 0
  have q3 := p3.cell 0
  simp at q2 q3
  simp [Leaves, settle, results, Tryz.results22, go_sem, q2, q3]
  exact (HB2.out.setCell (p := ⟨w.heap.size, 0, none⟩) (Nat.le_refl _) _).setCell (p := ⟨w.heap.size + 1, 0, none⟩) (by simp) _

theorem PickRange_any (s : ByteArray) (a b : Int) (w : World) (he : Evs w) : Calls Tryz.prog 22 #[.string s, .int .i64 a, .int .i64 b] w fun e' w' => e' = .returned (.tuple #[.int .i64 (rpickT (bys s) a b).1, .int .i64 (rpickT (bys s) a b).2]) ∧ Below w.heap.size w w' := by
  unfold rpickT
  rw [bys_len]
  by_cases h : 1024 < s.size
  · rw [if_pos h]; exact PickRange_long s a b w h
  · rw [if_neg h]
    cases hr : entriesT (bys s) with
    | none => exact PickRange_no s a b w (by omega) he hr
    | some l =>
      dsimp only
      by_cases ha : 0 ≤ a ∧ a < 6
      · by_cases hb : 0 ≤ b ∧ b < 6
        · rw [if_pos ⟨ha, hb⟩]
          obtain ⟨a', rfl⟩ := Int.eq_ofNat_of_zero_le ha.1
          obtain ⟨b', rfl⟩ := Int.eq_ofNat_of_zero_le hb.1
          exact PickRange_yes s a' b' w (by omega) he l hr (by omega) (by omega)
        · rw [if_neg (fun h => hb h.2)]; exact PickRange_b s a b w (by omega) he l hr ha hb
      · rw [if_neg (fun h => ha h.1)]; exact PickRange_a s a b w (by omega) he l hr ha

end Go.Proofs.YthkkndaednienaaGreatDoor

namespace Go.Proofs.YthkkndaednienaaGreatDoor
open Go.RowKit

theorem digB_al {l : List UInt8} (h : l.all (fun b => decide (48 ≤ b.toNat) && decide (b.toNat ≤ 57)) = true) : DigB l := by
  intro k hk
  unfold byt
  rw [List.getElem?_eq_getElem hk]
  have := List.all_eq_true.1 h _ (List.getElem_mem hk)
  simpa using this

theorem aw_r1 : rulesT [111, 110, 101, 58, 32, 110, 32, 37, 32, 49, 48, 32, 61, 32, 49, 32, 97, 110, 100, 32, 110, 32, 37, 32, 49, 48, 48, 32, 33, 61, 32, 49, 49] = some [(1, [[⟨110, 10, false, [(1, 1)]⟩, ⟨110, 100, true, [(11, 11)]⟩]])] := by kernel_rfl
theorem aw_r2 : rulesT [111, 110, 101, 58, 32, 110, 32, 61, 32, 49] = some [(1, [[⟨110, 0, false, [(1, 1)]⟩]])] := by kernel_rfl
theorem aw_m1 : MayO ⟨[50, 49], 0, 0, [48], [48], 0⟩ := ⟨⟨by decide, by decide⟩, ⟨by decide, by decide⟩, ⟨by decide, by decide⟩, .inr ⟨by decide, by decide, by decide, digB_al rfl⟩, .inl rfl, .inl rfl, fun _ => rfl, fun h => absurd rfl h⟩
theorem aw_m2 : ¬ MayO ⟨[], 0, 0, [], [], 0⟩ := fun h => by
  rcases h.2.2.2.1 with g | g
  · exact absurd (show ([] : List UInt8) = [48] from g) (by decide)
  · exact g.1 rfl
theorem aw_p1 : pickT [111, 110, 101, 58, 32, 110, 32, 37, 32, 49, 48, 32, 61, 32, 49, 32, 97, 110, 100, 32, 110, 32, 37, 32, 49, 48, 48, 32, 33, 61, 32, 49, 49] ⟨[50, 49], 0, 0, [48], [48], 0⟩ = (1, 0) := by
  unfold pickT
  rw [if_neg (by decide), aw_r1]
  dsimp only
  rw [if_pos aw_m1]
  kernel_rfl
theorem aw_p2 : pickT [111, 110, 101, 58, 32, 110, 32, 61, 32, 49] ⟨[], 0, 0, [], [], 0⟩ = (0, 92) := by
  unfold pickT
  rw [if_neg (by decide), aw_r2]
  dsimp only
  rw [if_neg aw_m2]
theorem aw_q1 : rpickT [111, 110, 101, 43, 111, 116, 104, 101, 114, 58, 32, 102, 101, 119] 1 5 = (3, 0) := by kernel_rfl
theorem aw_q2 : rpickT [] 6 0 = (0, 1) := by kernel_rfl
theorem aw_c1 : rcheckT [111, 116, 104, 101, 114, 58, 32, 110, 32, 61, 32, 49] = 90 := by kernel_rfl
theorem aw_c2 : rcheckT [] = 0 := by kernel_rfl
theorem aw_e1 : echeckT [111, 110, 101, 58, 32, 111, 110, 101] = 90 := by kernel_rfl
theorem aw_e2 : echeckT [] = 0 := by kernel_rfl

set_option maxRecDepth 100000 in
set_option maxHeartbeats 2000000 in
theorem awake09 (w : World) (he : Evs w) : Calls Tryz.prog 19 #[] w fun e w' => e = .returned (.bool true) ∧ Below w.heap.size w w' := by
  have HE := hide he
  have HB0 : Hid (Below w.heap.size w (w.alloc (.cells #[.string ⟨#[50, 49]⟩, .int .i64 0, .int .i64 0, .string ⟨#[48]⟩, .string ⟨#[48]⟩, .int .i64 0] 37))) := (Below.refl _ _).alloc (Nat.le_refl _) _
  have K1 := hide (fun X (h : Below w.heap.size w X) => Pick_any ⟨#[111, 110, 101, 58, 32, 110, 32, 37, 32, 49, 48, 32, 61, 32, 49, 32, 97, 110, 100, 32, 110, 32, 37, 32, 49, 48, 48, 32, 33, 61, 32, 49, 49]⟩ ⟨#[50, 49]⟩ 0 0 ⟨#[48]⟩ ⟨#[48]⟩ 0 X (HE.out.below h))
  rw [show bys ⟨#[111, 110, 101, 58, 32, 110, 32, 37, 32, 49, 48, 32, 61, 32, 49, 32, 97, 110, 100, 32, 110, 32, 37, 32, 49, 48, 48, 32, 33, 61, 32, 49, 49]⟩ = [111, 110, 101, 58, 32, 110, 32, 37, 32, 49, 48, 32, 61, 32, 49, 32, 97, 110, 100, 32, 110, 32, 37, 32, 49, 48, 48, 32, 33, 61, 32, 49, 49] from rfl, show bys ⟨#[50, 49]⟩ = [50, 49] from rfl, show bys ⟨#[48]⟩ = [48] from rfl, aw_p1] at K1
  have K2 := hide (fun X (h : Below w.heap.size w X) => Pick_any ⟨#[111, 110, 101, 58, 32, 110, 32, 61, 32, 49]⟩ ⟨#[]⟩ 0 0 ⟨#[]⟩ ⟨#[]⟩ 0 X (HE.out.below h))
  rw [show bys ⟨#[111, 110, 101, 58, 32, 110, 32, 61, 32, 49]⟩ = [111, 110, 101, 58, 32, 110, 32, 61, 32, 49] from rfl, show bys ⟨#[]⟩ = [] from rfl, aw_p2] at K2
  have K3 := hide (fun X (h : Below w.heap.size w X) => PickRange_any ⟨#[111, 110, 101, 43, 111, 116, 104, 101, 114, 58, 32, 102, 101, 119]⟩ 1 5 X (HE.out.below h))
  rw [show bys ⟨#[111, 110, 101, 43, 111, 116, 104, 101, 114, 58, 32, 102, 101, 119]⟩ = [111, 110, 101, 43, 111, 116, 104, 101, 114, 58, 32, 102, 101, 119] from rfl, aw_q1] at K3
  have K4 := hide (fun X (h : Below w.heap.size w X) => PickRange_any ⟨#[]⟩ 6 0 X (HE.out.below h))
  rw [show bys ⟨#[]⟩ = [] from rfl, aw_q2] at K4
  have K5 := hide (fun X (h : Below w.heap.size w X) => Check_any ⟨#[111, 116, 104, 101, 114, 58, 32, 110, 32, 61, 32, 49]⟩ X (HE.out.below h))
  rw [show bys ⟨#[111, 116, 104, 101, 114, 58, 32, 110, 32, 61, 32, 49]⟩ = [111, 116, 104, 101, 114, 58, 32, 110, 32, 61, 32, 49] from rfl, aw_c1] at K5
  have K6 := hide (fun X (h : Below w.heap.size w X) => Check_any ⟨#[]⟩ X (HE.out.below h))
  rw [show bys ⟨#[]⟩ = [] from rfl, aw_c2] at K6
  have K7 := hide (fun X (h : Below w.heap.size w X) => CheckRanges_any ⟨#[111, 110, 101, 58, 32, 111, 110, 101]⟩ X (HE.out.below h))
  rw [show bys ⟨#[111, 110, 101, 58, 32, 111, 110, 101]⟩ = [111, 110, 101, 58, 32, 111, 110, 101] from rfl, aw_e1] at K7
  have K8 := hide (fun X (h : Below w.heap.size w X) => CheckRanges_any ⟨#[]⟩ X (HE.out.below h))
  rw [show bys ⟨#[]⟩ = [] from rfl, aw_e2] at K8
  clear he HE
  go_enter Tryz.func19, Tryz.ntmps19
  go_wp2_with fail
  refine (K1.out _ HB0.out).mono ?_
  rintro e w1 ⟨rfl, hb⟩
  have HB1 := hide (HB0.out.trans (hb.mono HB0.out.size))
  clear hb K1 HB0
  go_wp2_with fail
  refine (K2.out _ HB1.out).mono ?_
  rintro e w2 ⟨rfl, hb⟩
  have HB2 := hide (HB1.out.trans (hb.mono HB1.out.size))
  clear hb K2 HB1
  go_wp2_with fail
  refine (K3.out _ HB2.out).mono ?_
  rintro e w3 ⟨rfl, hb⟩
  have HB3 := hide (HB2.out.trans (hb.mono HB2.out.size))
  clear hb K3 HB2
  go_wp2_with fail
  refine (K4.out _ HB3.out).mono ?_
  rintro e w4 ⟨rfl, hb⟩
  have HB4 := hide (HB3.out.trans (hb.mono HB3.out.size))
  clear hb K4 HB3
  go_wp2_with fail
  refine (K5.out _ HB4.out).mono ?_
  rintro e w5 ⟨rfl, hb⟩
  have HB5 := hide (HB4.out.trans (hb.mono HB4.out.size))
  clear hb K5 HB4
  go_wp2_with fail
  refine (K6.out _ HB5.out).mono ?_
  rintro e w6 ⟨rfl, hb⟩
  have HB6 := hide (HB5.out.trans (hb.mono HB5.out.size))
  clear hb K6 HB5
  go_wp2_with fail
  refine (K7.out _ HB6.out).mono ?_
  rintro e w7 ⟨rfl, hb⟩
  have HB7 := hide (HB6.out.trans (hb.mono HB6.out.size))
  clear hb K7 HB6
  go_wp2_with fail
  refine (K8.out _ HB7.out).mono ?_
  rintro e w8 ⟨rfl, hb⟩
  have HB8 := hide (HB7.out.trans (hb.mono HB7.out.size))
  clear hb K8 HB7
  go_wp2
  go_ret
  exact ⟨rfl, HB8.out⟩

end Go.Proofs.YthkkndaednienaaGreatDoor

namespace Go.Proofs.YthkkndaednienaaGreatDoor
open Go.RowKit

theorem btrim_nil {A : List UInt8} (X : List UInt8) (h : trimB A = []) : trimB (A ++ X) = trimB X := by
  unfold trimB at *
  induction A with
  | nil => rfl
  | cons a r ih =>
    simp only [List.dropWhile] at h
    split at h
    · rename_i ha
      rw [List.cons_append, List.dropWhile, ha]
      exact ih h
    · cases h

theorem btrim_cons {A : List UInt8} (X : List UInt8) {a : UInt8} {r : List UInt8} (h : trimB A = a :: r) : trimB (A ++ X) = a :: (r ++ X) := by
  unfold trimB at *
  induction A with
  | nil => cases h
  | cons b q ih =>
    simp only [List.dropWhile] at h
    split at h
    · rename_i hb
      rw [List.cons_append, List.dropWhile, hb]
      exact ih h
    · rename_i hb
      rw [List.cons_append, List.dropWhile, hb]
      cases h
      rfl

theorem takeW_stop (p : UInt8 → Bool) (l R : List UInt8) (c : UInt8) (hc : p c = false) : ((l ++ c :: R).takeWhile p).length = (l.takeWhile p).length := by
  induction l with
  | nil => simp [List.takeWhile, hc]
  | cons a l ih =>
    by_cases ha : p a = true
    · simp [List.takeWhile, ha, ih]
    · simp [List.takeWhile, ha]

def Brk (c : UInt8) : Prop := isLt c = false ∧ isNm c = false ∧ c ≠ 61 ∧ c ≠ 46

theorem partN_app (a : UInt8) (r R : List UInt8) (c : UInt8) (hc : Brk c) : partN (a :: (r ++ c :: R)) = partN (a :: r) := by
  obtain ⟨h1, h2, h3, h4⟩ := hc
  have e1 := takeW_stop isLt (a :: r) R c h1
  have e2 := takeW_stop isNm (a :: r) R c h2
  rw [List.cons_append] at e1 e2
  simp only [partN]
  rw [e1, e2]
  have e3 : ((a.toNat = 33 ∧ (r ++ c :: R).head? = some 61) ∨ (a.toNat = 46 ∧ (r ++ c :: R).head? = some 46)) ↔ ((a.toNat = 33 ∧ r.head? = some 61) ∨ (a.toNat = 46 ∧ r.head? = some 46)) := by
    cases r with
    | nil => simp [h3, h4]
    | cons b r => simp
  simp only [e3]

theorem toks_app (A : List UInt8) (c : UInt8) (R : List UInt8) (hc : Brk c) : toks (A ++ c :: R) = if (toks A).2 then ((toks A).1, true) else ((toks A).1 ++ (toks (c :: R)).1, (toks (c :: R)).2) := by
  obtain ⟨n, hn⟩ : ∃ n, A.length ≤ n := ⟨_, Nat.le_refl _⟩
  induction n generalizing A with
  | zero =>
    obtain rfl := List.eq_nil_of_length_eq_zero (by omega : A.length = 0)
    rw [List.nil_append, show toks [] = ([], false) from rfl]
    simp
  | succ n ih =>
    have hl := trimB_len A
    cases ht : trimB A with
    | nil =>
      have hA : toks A = ([], false) := by rw [toks_step, ht]
      have hB : toks (A ++ c :: R) = toks (c :: R) := by rw [toks_step, btrim_nil _ ht, ← toks_step]
      rw [hA, hB]; rfl
    | cons a r =>
      cases hp : partN (a :: r) with
      | none =>
        have hA : toks A = ([], true) := by rw [toks_step, ht]; dsimp only; rw [hp]
        have hB : toks (A ++ c :: R) = ([], true) := by rw [toks_step, btrim_cons _ ht]; dsimp only; rw [partN_app a r R c hc, hp]
        rw [hA, hB]; rfl
      | some k =>
        have hk := partN_le hp
        have e1 : (a :: (r ++ c :: R)).take k = (a :: r).take k := by
          rw [← List.cons_append, List.take_append_of_le_length hk.2]
        have e2 : (a :: (r ++ c :: R)).drop k = (a :: r).drop k ++ c :: R := by
          rw [← List.cons_append, List.drop_append_of_le_length hk.2]
        have hA : toks A = ((a :: r).take k :: (toks ((a :: r).drop k)).1, (toks ((a :: r).drop k)).2) := by rw [toks_step, ht]; dsimp only; rw [hp]
        have hB : toks (A ++ c :: R) = ((a :: r).take k :: (toks ((a :: r).drop k ++ c :: R)).1, (toks ((a :: r).drop k ++ c :: R)).2) := by
          rw [toks_step, btrim_cons _ ht]
          dsimp only
          rw [partN_app a r R c hc, hp]
          dsimp only
          rw [e1, e2]
        rw [hA, hB, ih ((a :: r).drop k) (by rw [List.length_drop, ← ht]; rw [← ht] at hk; omega)]
        dsimp only
        split
        · rfl
        · rfl

theorem toks_sign (c : UInt8) (R : List UInt8) (h1 : isLt c = false) (h2 : isNm c = false) (h3 : isSg c = true) (h4 : c ≠ 32) (h5 : c ≠ 33) (h6 : c ≠ 46) : toks (c :: R) = ([c] :: (toks R).1, (toks R).2) := by
  rw [toks_step]
  have e : trimB (c :: R) = c :: R := by
    unfold trimB
    have : (c == 32) = false := beq_eq_false_iff_ne.2 h4
    simp [List.dropWhile, this]
  rw [e]
  have n33 : ¬ c.toNat = 33 := fun h => h5 (UInt8.toNat_inj.1 h)
  have n46 : ¬ c.toNat = 46 := fun h => h6 (UInt8.toNat_inj.1 h)
  have hp : partN (c :: R) = some 1 := by
    unfold partN
    simp [h1, h2, h3, n33, n46]
  dsimp only
  rw [hp]
  rfl

theorem toks_blank (R : List UInt8) : toks (32 :: R) = toks R := by
  rw [toks_step, toks_step R]
  rfl

end Go.Proofs.YthkkndaednienaaGreatDoor

namespace Go.Proofs.YthkkndaednienaaGreatDoor
open Go.RowKit

theorem brk32 : Brk 32 := ⟨by decide, by decide, by decide, by decide⟩

end Go.Proofs.YthkkndaednienaaGreatDoor

namespace Go.Proofs.YthkkndaednienaaGreatDoor
open Go.RowKit

end Go.Proofs.YthkkndaednienaaGreatDoor

namespace Go.Proofs.YthkkndaednienaaGreatDoor
open Go.RowKit

def isBn (p c : Nat) : Bool := c == 58 || c == 59 || c == 37 || c == 44 || c == 33 || (c == 61 && p != 33)

def wid : UInt8 → List UInt8 → List UInt8
  | _, [] => []
  | p, c :: r => if isBn p.toNat c.toNat then 32 :: c :: wid c r else c :: wid c r

def lst : UInt8 → List UInt8 → UInt8
  | p, [] => p
  | _, c :: r => lst c r

theorem wid_snoc (p : UInt8) (l : List UInt8) (c : UInt8) : wid p (l ++ [c]) = wid p l ++ if isBn (lst p l).toNat c.toNat then [32, c] else [c] := by
  induction l generalizing p with
  | nil =>
    rw [List.nil_append, wid, lst]
    split <;> rename_i h <;> simp [wid, h]
  | cons a l ih =>
    rw [List.cons_append, wid, wid, ih, lst]
    split <;> simp

theorem wid_len (p : UInt8) (l : List UInt8) : l.length ≤ (wid p l).length ∧ (wid p l).length ≤ 2 * l.length := by
  induction l generalizing p with
  | nil => simp [wid]
  | cons a l ih =>
    rw [wid]
    have := ih a
    split <;> simp <;> omega

theorem lst_snoc (p : UInt8) (l : List UInt8) (c : UInt8) : lst p (l ++ [c]) = c := by
  induction l generalizing p with
  | nil => rfl
  | cons a l ih => rw [List.cons_append, lst, ih]

theorem tw_take (q : UInt8 → Bool) (l : List UInt8) : l.take (l.takeWhile q).length = l.takeWhile q := by
  induction l with
  | nil => rfl
  | cons a l ih =>
    by_cases h : q a = true
    · simp [List.takeWhile, h, ih]
    · simp [List.takeWhile, h]

theorem tw_drop (q : UInt8 → Bool) (l : List UInt8) : l.drop (l.takeWhile q).length = l.dropWhile q := by
  induction l with
  | nil => rfl
  | cons a l ih =>
    by_cases h : q a = true
    · simp [List.takeWhile, List.dropWhile, h, ih]
    · simp [List.takeWhile, List.dropWhile, h]

theorem toks_head (c : UInt8) (l : List UInt8) (h : c ≠ 32) : toks (c :: l) = match partN (c :: l) with
    | none => ([], true)
    | some k => ((c :: l).take k :: (toks ((c :: l).drop k)).1, (toks ((c :: l).drop k)).2) := by
  rw [toks_step]
  have e : trimB (c :: l) = c :: l := by
    unfold trimB
    have : (c == 32) = false := beq_eq_false_iff_ne.2 h
    simp [List.dropWhile, this]
  rw [e]
  rfl

theorem toks_lt (c : UInt8) (l : List UInt8) (hc : isLt c = true) : toks (c :: l) = ((c :: l.takeWhile isLt) :: (toks (l.dropWhile isLt)).1, (toks (l.dropWhile isLt)).2) := by
  rw [toks_head c l (by rintro rfl; exact absurd hc (by decide))]
  have hp : partN (c :: l) = some ((c :: l).takeWhile isLt).length := by simp only [partN]; rw [if_pos hc]
  rw [hp]
  dsimp only
  rw [tw_take, tw_drop]
  simp [List.takeWhile, List.dropWhile, hc]

theorem toks_nm (c : UInt8) (l : List UInt8) (h0 : isLt c = false) (hc : isNm c = true) : toks (c :: l) = ((c :: l.takeWhile isNm) :: (toks (l.dropWhile isNm)).1, (toks (l.dropWhile isNm)).2) := by
  rw [toks_head c l (by rintro rfl; exact absurd hc (by decide))]
  have hp : partN (c :: l) = some ((c :: l).takeWhile isNm).length := by simp only [partN]; rw [if_neg (by rw [h0]; simp), if_pos hc]
  rw [hp]
  dsimp only
  rw [tw_take, tw_drop]
  simp [List.takeWhile, List.dropWhile, hc]

theorem toks_two (c d : UInt8) (l : List UInt8) (h : (c = 33 ∧ d = 61) ∨ (c = 46 ∧ d = 46)) : toks (c :: d :: l) = ([c, d] :: (toks l).1, (toks l).2) := by
  rw [toks_head c _ (by rcases h with ⟨rfl, _⟩ | ⟨rfl, _⟩ <;> decide)]
  have hp : partN (c :: d :: l) = some 2 := by
    rcases h with ⟨rfl, rfl⟩ | ⟨rfl, rfl⟩ <;> rfl
  rw [hp]
  rfl

theorem toks_bad (c : UInt8) (l : List UInt8) (h : c ≠ 32) (h1 : isLt c = false) (h2 : isNm c = false) (h3 : isSg c = false) (h4 : c = 33 → l.head? ≠ some 61) (h5 : c = 46 → l.head? ≠ some 46) : toks (c :: l) = ([], true) := by
  rw [toks_head c l h]
  have hp : partN (c :: l) = none := by
    simp only [partN]
    rw [if_neg (by rw [h1]; simp), if_neg (by rw [h2]; simp), if_neg, if_neg (by rw [h3]; simp)]
    rintro (⟨q, q'⟩ | ⟨q, q'⟩)
    · exact h4 (UInt8.toNat_inj.1 q) q'
    · exact h5 (UInt8.toNat_inj.1 q) q'
  rw [hp]

theorem isB_ltnm (p c : UInt8) (h : isLt c = true ∨ isNm c = true) : isBn p.toNat c.toNat = false := by
  unfold isLt isNm at h
  unfold isBn
  simp only [Bool.and_eq_true, decide_eq_true_eq] at h
  simp only [Bool.or_eq_false_iff, beq_eq_false_iff_ne, Bool.and_eq_false_iff]
  omega

theorem wid_run (q : UInt8 → Bool) (hq : ∀ c, q c = true → isLt c = true ∨ isNm c = true) (h32 : q 32 = false) (p : UInt8) (r : List UInt8) : (wid p r).takeWhile q = r.takeWhile q ∧ ∃ p', (wid p r).dropWhile q = wid p' (r.dropWhile q) := by
  induction r generalizing p with
  | nil => exact ⟨rfl, p, rfl⟩
  | cons b r ih =>
    by_cases hb : q b = true
    · have e : wid p (b :: r) = b :: wid b r := by rw [wid, isB_ltnm p b (hq b hb)]; rfl
      rw [e]
      obtain ⟨h1, p', h2⟩ := ih b
      simp only [List.takeWhile, List.dropWhile, hb]
      exact ⟨by rw [h1], p', h2⟩
    · have hb' : q b = false := by simpa using hb
      refine ⟨?_, p, ?_⟩
      · rw [wid]
        split <;> simp [List.takeWhile, hb', h32]
      · rw [wid]
        split
        · rename_i hs; simp [List.dropWhile, hb', h32, wid, hs]
        · rename_i hs; simp [List.dropWhile, hb', wid, hs]

theorem wid_head (p : UInt8) (r : List UInt8) (x : UInt8) (hx : x ≠ 32) (h : r.head? ≠ some x) : (wid p r).head? ≠ some x := by
  cases r with
  | nil => simp [wid]
  | cons b r =>
    rw [wid]
    split
    · intro e; simp at e; exact hx e.symm
    · simpa using h

theorem drop_len (q : UInt8 → Bool) (l : List UInt8) : (l.dropWhile q).length ≤ l.length := (List.dropWhile_sublist _).length_le

theorem toks_wid (n : Nat) (p : UInt8) (l : List UInt8) (hn : l.length ≤ n) : toks (wid p l) = toks l := by
  induction n generalizing p l with
  | zero =>
    obtain rfl := List.eq_nil_of_length_eq_zero (by omega : l.length = 0)
    rfl
  | succ n ih =>
    cases l with
    | nil => rfl
    | cons c r =>
      have hr : r.length ≤ n := by simpa using hn
      have e : toks (wid p (c :: r)) = toks (c :: wid c r) := by
        rw [wid]
        split
        · rw [toks_blank]
        · rfl
      rw [e]
      by_cases h32 : c = 32
      · subst h32
        rw [toks_blank, toks_blank, ih _ _ hr]
      cases h1 : isLt c with
      | true =>
        obtain ⟨e1, p', e2⟩ := wid_run isLt (fun c h => .inl h) (by decide) c r
        have := drop_len isLt r
        rw [toks_lt c _ h1, toks_lt c _ h1, e1, e2, ih _ _ (by omega)]
      | false =>
        cases h2 : isNm c with
        | true =>
          obtain ⟨e1, p', e2⟩ := wid_run isNm (fun c h => .inr h) (by decide) c r
          have := drop_len isNm r
          rw [toks_nm c _ h1 h2, toks_nm c _ h1 h2, e1, e2, ih _ _ (by omega)]
        | false =>
          cases h3 : isSg c with
          | true =>
            have n33 : c ≠ 33 := by rintro rfl; exact absurd h3 (by decide)
            have n46 : c ≠ 46 := by rintro rfl; exact absurd h3 (by decide)
            rw [toks_sign c _ h1 h2 h3 h32 n33 n46, toks_sign c _ h1 h2 h3 h32 n33 n46, ih _ _ hr]
          | false =>
            by_cases hx : (c = 33 ∧ r.head? = some 61) ∨ (c = 46 ∧ r.head? = some 46)
            · cases r with
              | nil => simp at hx
              | cons d r =>
                have hx' : (c = 33 ∧ d = 61) ∨ (c = 46 ∧ d = 46) := by simpa using hx
                have ew : wid c (d :: r) = d :: wid d r := by
                  rcases hx' with ⟨rfl, rfl⟩ | ⟨rfl, rfl⟩ <;> rfl
                rw [ew, toks_two _ _ _ hx', toks_two _ _ _ hx', ih _ _ (by simp at hr; omega)]
            · have k4 : c = 33 → r.head? ≠ some 61 := fun a b => hx (.inl ⟨a, b⟩)
              have k5 : c = 46 → r.head? ≠ some 46 := fun a b => hx (.inr ⟨a, b⟩)
              rw [toks_bad c _ h32 h1 h2 h3 (fun a => wid_head _ _ _ (by decide) (k4 a)) (fun a => wid_head _ _ _ (by decide) (k5 a)), toks_bad c _ h32 h1 h2 h3 k4 k5]

theorem toks_wide (l : List UInt8) : toks (32 :: wid 0 l ++ [32]) = toks l := by
  rw [toks_app _ _ _ brk32, toks_blank, toks_wid _ _ _ (Nat.le_refl _), show toks [32] = ([], false) by kernel_rfl]
  split
  · rename_i h
    exact Prod.ext rfl h.symm
  · rename_i h
    refine Prod.ext (List.append_nil _) ?_
    simpa using (eq_comm.1 (by simpa using h : (toks l).2 = false))

theorem rules_wide (l : List UInt8) : rulesT (32 :: wid 0 l ++ [32]) = rulesT l := by
  unfold rulesT
  rw [toks_wide]

theorem pick_wide (l : List UInt8) (x : OperT) (h : (32 :: wid 0 l ++ [32]).length ≤ 1024) : pickT (32 :: wid 0 l ++ [32]) x = pickT l x := by
  have := wid_len 0 l
  have hl : l.length ≤ 1024 := by simp at h; omega
  unfold pickT
  rw [rules_wide, if_neg (by omega), if_neg (by omega)]

end Go.Proofs.YthkkndaednienaaGreatDoor

namespace Go.Proofs.YthkkndaednienaaGreatDoor
open Go.RowKit

def Ob (base : Nat) (X : World) (v : Value) (ys : List Nat) : Prop :=
  ∃ g cap cur fz, v = .slice (some ⟨g, 0, none⟩) ys.length cap ∧ base ≤ g ∧ X.heap[g]? = some (.cells cur 5 fz) ∧ (fz = (0, 0) ∨ cap ≤ fz.1) ∧ ys.length ≤ cap ∧ cur.size = cap ∧ cur.toList.take ys.length = vals .u8 ys

theorem Ob.cells {base : Nat} {X : World} {g n cap : Nat} {ys : List Nat} (h : Ob base X (.slice (some ⟨g, 0, none⟩) n cap) ys) : n = ys.length ∧ base ≤ g ∧ g < X.heap.size ∧ n ≤ cap ∧ ∀ i, i < ys.length → X.cell? ⟨g, i, none⟩ = some (.int .u8 ((ys[i]?.getD 0 : Nat) : Int)) := by
  obtain ⟨g', cap', cur, fz, hv, hg1, hh, hf, hn, hsz, ht⟩ := h
  simp only [Value.slice.injEq, Option.some.injEq, Addr.mk.injEq] at hv
  obtain ⟨⟨rfl, _, _⟩, rfl, rfl⟩ := hv
  refine ⟨rfl, hg1, lt_of_block hh, hn, fun i hi => ?_⟩
  have hc : cur[i]? = (vals .u8 ys)[i]? := by rw [← ht, List.getElem?_take_of_lt hi, Array.getElem?_toList]
  simp only [World.cell?, hh, Option.isSome_none, Bool.false_eq_true, if_false, hc]
  simp [vals, hi]

theorem Ob.below {base : Nat} {X Y : World} {v : Value} {ys : List Nat} (h : Ob base X v ys) (hb : Below X.heap.size X Y) : Ob base Y v ys := by
  obtain ⟨g, cap, cur, fz, rfl, hg1, hh, hr⟩ := h
  exact ⟨g, cap, cur, fz, rfl, hg1, (hb.block g (lt_of_block hh)).trans hh, hr⟩

theorem Ob.lt {base : Nat} {X : World} {v : Value} {ys : List Nat} (h : Ob base X v ys) : ∀ g, v.ownBlock = some g → base ≤ g ∧ g < X.heap.size := by
  obtain ⟨g, cap, cur, fz, rfl, hg1, hh, hr⟩ := h
  intro k hk
  simp only [Value.ownBlock, Option.some.injEq] at hk
  subst hk
  exact ⟨hg1, lt_of_block hh⟩

theorem append_ob {P : Program} {base : Nat} (X : World) {ops : Array Oper} {rest : List Oper} {o : Oper} {a : Act} {Q : Exit → Act → World → Prop}
    (hg : o.guard = none) (s x : Operand) (t : TypeId) (hop : o.op = Op.call { callee := Callee.builtin Builtin.append, args := #[s, x], argTypes := #[t, t] })
    (i : TypeInfo) (h1 : P.underlying t = some (.slice 5)) (h2 : P.info? 5 = some i) (h3 : i.zero = some (.int .u8 0)) (h4 : i.size = 1) (h5 : i.bytes = 1)
    (v : Value) (ys : List Nat) (hs : a.eval s = v) (hob : Ob base X v ys) (ad : Addr) (c d : Nat) (hx : a.eval x = .slice (some ad) 1 c) (hc : X.cell? ad = some (.int .u8 (d : Int))) (hn : ys.length ≤ 100000000000)
    (h : ∀ v' w', Ob base w' v' (ys ++ [d]) → X.grownBy w' v.ownBlock → (∀ g, v'.ownBlock = some g → v.ownBlock = some g ∨ X.heap.size ≤ g) → wpList P ops Q rest (a.put o.dst v') w') : wpList P ops Q (o :: rest) a X := by
  obtain ⟨g, cap, cur, fz, rfl, hg1, hh, hf, hl, hsz, ht⟩ := hob
  have hcell : ∀ j u, (vals .u8 ys)[j]? = some u → X.cell? ⟨g, 0 + j, none⟩ = some u := by
    intro j u hj
    have hjl : j < ys.length := by
      rcases Nat.lt_or_ge j ys.length with q | q
      · exact q
      · rw [List.getElem?_eq_none (by simpa [vals] using q)] at hj; cases hj
    have : cur[j]? = (vals .u8 ys)[j]? := by rw [← ht, List.getElem?_take_of_lt hjl, Array.getElem?_toList]
    simp only [World.cell?, hh, Option.isSome_none, Bool.false_eq_true, if_false, Nat.zero_add, this, hj]
  have vl : (vals .u8 (ys ++ [d])) = vals .u8 ys ++ [.int .u8 (d : Int)] := by simp [vals]
  have hlt := lt_of_block hh
  refine wpList_append_arg X hg s x t hop 5 i (.int .u8 0) 1 1 h1 h2 h3 h4 h5 rfl (by decide) g 0 ys.length cap (vals .u8 ys) hs (by simp [vals]) hcell ad 1 c [.int .u8 (d : Int)] hx rfl ?_ ?_ ?_ ?_ ?_ ?_ ?_
  · intro j u hj
    match j, hj with
    | 0, hj =>
      simp only [List.getElem?_cons_zero, Option.some.injEq] at hj
      subst hj
      have e : ad.add 0 = ad := by unfold Addr.add; simp
      rw [e]; exact hc
  · intro u hu
    simp only [List.mem_singleton] at hu
    subst hu
    rfl
  · intro hr j hj
    have : j = 0 := by simpa using hj
    subst this
    have hi : 0 + ys.length * 1 + 0 = ys.length := by omega
    rw [hi]
    constructor
    · simp only [World.cell?, hh, Option.isSome_none, Bool.false_eq_true, if_false]
      simp; omega
    · simp only [World.frozen?, hh]
      rcases hf with rfl | hf
      · simp
      · simp; omega
  · unfold maxLen; omega
  · omega
  · intro hr
    have hi : 0 + ys.length * 1 = ys.length := by omega
    rw [hi]
    refine h _ _ ⟨g, cap, cur.set! ys.length (.int .u8 (d : Int)), fz, ?_, hg1, ?_, hf, ?_, ?_, ?_⟩ ?_ ?_
    · rw [List.length_append]; rfl
    · simp only [World.setCells, World.setCell, Array.getElem?_modify, if_true, hh, Option.map_some]
      rfl
    · rw [List.length_append]; exact hr
    · simp [hsz]
    · rw [vl, List.length_append]
      simp only [List.length_singleton, Array.set!_eq_setIfInBounds, Array.toList_setIfInBounds]
      rw [List.take_add_one, List.take_set_of_le (Nat.le_refl _), ht]
      congr 1
      rw [List.getElem?_set_self (by simp; omega)]
      rfl
    · refine ⟨rfl, rfl, rfl, ?_, fun k hk hne => ?_⟩
      · simp [World.setCells, World.setCell]
      · simp only [World.setCells, World.setCell, Array.getElem?_modify]
        rw [if_neg (fun e => hne (by simp [Value.ownBlock, e]))]
    · intro k hk
      exact .inl hk
  · intro hr v' w' ho hgr
    obtain ⟨_, ho⟩ := ho
    rcases ho with ⟨_, h0⟩ | ⟨g', cap', cur', rfl, hg', hh', hn', _, hs', ht'⟩
    · omega
    · refine h _ _ ⟨g', cap', cur', (0, 0), by rw [List.length_append]; rfl, by omega, hh', .inl rfl, by rw [List.length_append]; exact hn', by omega, by rw [vl, List.length_append]; simpa using ht'⟩ ⟨hgr.os, hgr.tape, hgr.output, hgr.size, fun k hk _ => hgr.block k hk (by simp)⟩ ?_
      intro k hk
      simp only [Value.ownBlock, Option.some.injEq] at hk
      subst hk
      exact .inr hg'

end Go.Proofs.YthkkndaednienaaGreatDoor

namespace Go.Proofs.YthkkndaednienaaGreatDoor
open Go.RowKit

theorem strB_of (l : List UInt8) : strOfNums ((l.map UInt8.toNat).map fun (x : Nat) => (x : Int)) = ⟨l.toArray⟩ := by
  apply ByteArray.ext
  apply Array.toList_inj.1
  rw [strOfNums_data, List.map_map, List.map_map]
  show _ = l
  conv => rhs; rw [← List.map_id l]
  apply List.map_congr_left
  intro x _
  simp

theorem Tryz.infoBz : (Tryz.prog.info? 5).map (fun i => (i.zero, i.size, i.bytes)) = some (some (.int .u8 0), 1, 1) := by kernel_rfl

theorem convB_at {X : World} {g o cap : Nat} {l : List UInt8} (h : ∀ i, i < l.length → X.cell? ⟨g, o + i, none⟩ = some (.int .u8 ((byt l i : Nat) : Int))) : (convert 51 9 (.slice (some ⟨g, o, none⟩) l.length cap)).run Tryz.prog X = .ok (.string ⟨l.toArray⟩) X := by
  have kc := run_convert_bytes_arg (P := Tryz.prog) X 51 5 Tryz.underlying51 Tryz.underlying5 g o l.length cap ((l.map UInt8.toNat).map fun (x : Nat) => (x : Int)) (by rw [List.length_map, List.length_map]) (fun i hi => by
    rw [h i hi]
    unfold byt
    simp [List.getD, hi]) 9 Tryz.underlying9
  rw [strB_of] at kc
  exact kc

theorem convB_ob {base : Nat} {X : World} {v : Value} {l : List UInt8} (h : Ob base X v (l.map UInt8.toNat)) : (convert 51 9 v).run Tryz.prog X = .ok (.string ⟨l.toArray⟩) X := by
  obtain ⟨g, cap, cur, fz, rfl, hr⟩ := id h
  obtain ⟨_, _, _, _, hc⟩ := h.cells
  rw [List.length_map] at hc ⊢
  refine convB_at fun i hi => ?_
  rw [Nat.zero_add, hc i hi]
  unfold byt
  simp [hi]

end Go.Proofs.YthkkndaednienaaGreatDoor

namespace Go.Proofs.YthkkndaednienaaGreatDoor
open Go.RowKit

theorem bys_ofL (l : List UInt8) : bys ⟨l.toArray⟩ = l := rfl

theorem take_snoc (l : List UInt8) (j : Nat) (h : j < l.length) : l.take (j + 1) = l.take j ++ [l[j]] := by
  rw [List.take_add_one, List.getElem?_eq_getElem h]; rfl

theorem byt_at {l : List UInt8} {j : Nat} (h : j < l.length) : byt l j = l[j].toNat := by
  unfold byt
  simp [h]

theorem wide_more (l : List UInt8) (j b q : Nat) (h : j < l.length) (hb : b = byt l j) (hq : (lst 0 (l.take j)).toNat = q) :
    (32 :: wid 0 (l.take (j + 1))).map UInt8.toNat = (32 :: wid 0 (l.take j)).map UInt8.toNat ++ if isBn q b then [32, b] else [b] := by
  subst hb hq
  rw [take_snoc l j h, wid_snoc, byt_at h]
  split <;> simp

theorem lst_at (l : List UInt8) (k : Nat) (h : k < l.length) : (lst 0 (l.take (k + 1))).toNat = byt l k := by
  rw [take_snoc l k h, lst_snoc, byt_at h]

theorem wide_len (l : List UInt8) (j : Nat) (h : l.length ≤ 1048576) : ((32 :: wid 0 (l.take j)).map UInt8.toNat).length ≤ 3000000 := by
  have h1 := wid_len 0 (l.take j)
  have h2 : (l.take j).length ≤ l.length := by rw [List.length_take]; omega
  simp only [List.map_cons, List.length_cons, List.length_map]
  omega

theorem ob_new {X Y : World} (h : Y = X.alloc (.cells #[.int .u8 32] 5)) : Ob X.heap.size Y (.slice (some ⟨X.heap.size, 0, none⟩) 1 1) [32] := by
  subst h
  refine ⟨X.heap.size, 1, #[.int .u8 32], (0, 0), rfl, Nat.le_refl _, ?_, .inl rfl, Nat.le_refl _, rfl, rfl⟩
  show (X.heap.push _)[X.heap.size]? = _
  simp

theorem isB_eq {q : Nat} (h : ¬ q = 33) : isBn q 61 = true := by
  have : (q != 33) = true := by rw [bne_iff_ne]; exact h
  unfold isBn
  rw [this]; rfl

theorem isB_no {q b : Nat} (h1 : ¬ b = 58) (h2 : ¬ b = 59) (h3 : ¬ b = 37) (h4 : ¬ b = 44) (h5 : ¬ b = 33) (h6 : ¬ b = 61) : isBn q b = false := by
  unfold isBn
  simp [h1, h2, h3, h4, h5, h6]

set_option maxRecDepth 100000 in
set_option maxHeartbeats 8000000 in
theorem blanks_walk (s i : ByteArray) (v z : Int) (f t : ByteArray) (e : Int) (w : World) (hs : s.size ≤ 1048576) (he : Evs w) :
    Calls Tryz.prog 9 #[.string s, opV i v z f t e] w fun e' w' => e' = .returned (.bool true) ∧ Below w.heap.size w w' := by
  have HE := hide he
  obtain ⟨X0, hX0⟩ : ∃ X, X = w.alloc (.cells #[.string i, .int .i64 v, .int .i64 z, .string f, .string t, .int .i64 e] 37) := ⟨_, rfl⟩
  have HB0 : Hid (Below w.heap.size w X0) := by rw [hX0]; exact (Below.refl _ _).alloc (Nat.le_refl _) _
  have BX0 := hide (Blk.newAt w w.heap.size rfl #[.string i, .int .i64 v, .int .i64 z, .string f, .string t, .int .i64 e] 37)
  rw [← hX0] at BX0
  have hsz : w.heap.size + 1 = X0.heap.size := by rw [hX0]; simp
  have HSZ := hide hsz
  clear hsz
  have K1 := hide (fun X (h : Below w.heap.size w X) => Pick_any s i v z f t e X (HE.out.below h))
  have K2 := hide (fun X (h : Below w.heap.size w X) => Pick_any ⟨(32 :: wid 0 (bys s) ++ [32]).toArray⟩ i v z f t e X (HE.out.below h))
  have K3 := hide (fun X (h : Below w.heap.size w X) => awake09 X (HE.out.below h))
  rw [bys_ofL (32 :: wid 0 (bys s) ++ [32])] at K2
  have HW := hide (fun (h : (32 :: wid 0 (bys s) ++ [32]).length ≤ 1024) => pick_wide (bys s) ⟨bys i, v, z, bys f, bys t, e⟩ h)
  generalize pickT (bys s) ⟨bys i, v, z, bys f, bys t, e⟩ = A at *
  generalize pickT (32 :: wid 0 (bys s) ++ [32]) ⟨bys i, v, z, bys f, bys t, e⟩ = B at *
  obtain ⟨A1, A2⟩ := A
  obtain ⟨B1, B2⟩ := B
  dsimp only at K1 K2
  have HL := hide (bys_len s)
  have WL := hide (fun j => wide_len (bys s) j (by rw [bys_len]; exact hs))
  have HG : Hid (∀ k (h : k < s.size), s[k].toNat = byt (bys s) k) := fun k h => byt_get s k h
  have MO := hide (fun j b q (h : j < s.size) hb hq => wide_more (bys s) j b q (by rw [bys_len]; exact h) hb hq)
  have LA := hide (fun k (h : k < s.size) => lst_at (bys s) k (by rw [bys_len]; exact h))
  have OB0 : Hid (Ob X0.heap.size (X0.alloc (.cells #[.int .u8 32] 5)) (.slice (some ⟨X0.heap.size, 0, none⟩) 1 1) [32]) := ob_new rfl
  have BW0 : Hid (Below X0.heap.size X0 (X0.alloc (.cells #[.int .u8 32] 5))) := (Below.refl _ _).alloc (Nat.le_refl _) _
  obtain ⟨i0, hi, hz0, hz1, hz2⟩ := info_parts Tryz.infoBz
  clear he
  go_enter Tryz.func9, Tryz.ntmps9
  have HX0 := hide hX0
  clear hX0
  go_wp2
  simp only [← HX0.out]
  clear HX0
  go_loopw [5, 6] (fun a b wr => ∃ j : Nat, j ≤ s.size ∧ Hid (Ob X0.heap.size wr a ((32 :: wid 0 ((bys s).take j)).map UInt8.toNat)) ∧ b = .int .i64 (j : Int) ∧ Hid (Below X0.heap.size X0 wr)) (fun _ b _ => s.size - (intOf b).toNat)
  case atStart => exact ⟨0, Nat.zero_le _, by rw [HSZ.out]; exact OB0, rfl, BW0⟩
  case round =>
    clear OB0 BW0
    obtain ⟨j, hj, hob, rfl, hbw⟩ := hrel
    by_cases hlt : j < s.size
    · have hlt' : (j : Int) < (s.size : Int) := by omega
      have hg : ∀ h : j < s.size, s[j].toNat = byt (bys s) j := fun h => HG.out j h
      obtain ⟨b, hbb⟩ : ∃ b, b = byt (bys s) j := ⟨_, rfl⟩
      rw [← hbb] at hg
      have hb256 : b < 256 := by rw [hbb]; exact byt_lt _ _
      have MB := hide (fun q hq => MO.out j b q hlt hbb hq)
      have hl := WL.out j
      have HLT := hide (hob.out.lt)
      clear hbb
      obtain ⟨ys, hys⟩ : ∃ ys, ys = (32 :: wid 0 ((bys s).take j)).map UInt8.toNat := ⟨_, rfl⟩
      rw [← hys] at hob MB hl
      clear hys
      by_cases h58 : b = 58
      · subst h58
        have EY := hide (MB.out (lst 0 ((bys s).take j)).toNat (rfl))
        rw [show isBn (lst 0 ((bys s).take j)).toNat 58 = true from rfl, if_pos rfl] at EY
        clear MB MO LA HG HW WL
        have HX1 := hide (hob.out.below ((Below.refl _ _).alloc (Nat.le_refl _) (Obj.cells #[.int .u8 32] 5)))
        go_wp2_with (at_builtin; refine append_ob _ rfl _ _ 51 rfl i0 Tryz.underlying51 hi hz0 hz1 hz2 _ _ rfl HX1.out ⟨wr.heap.size, 0, none⟩ 1 32 rfl ?c1s0a ?c2s0a ?_)
        try case c1s0a => first | exact new_cell wr _ _ | simp
        try case c2s0a => first | omega | (rw [List.length_append, List.length_singleton]; omega)
        intro v1 w1 ob1 hgr1 _
        have hb1 := hbw.out.alloc hbw.out.size (Obj.cells #[.int .u8 32] 5)
        have HB1 := hide (hb1.grown hgr1 hb1.size (fun q hq => (HLT.out q hq).1))
        have HO1 := hide ob1
        have HLT1 := hide (HO1.out.lt)
        clear hob hbw HX1 HLT ob1 hgr1 hb1
        have HX2 := hide (HO1.out.below ((Below.refl _ _).alloc (Nat.le_refl _) (Obj.cells #[.int .u8 58] 5)))
        go_wp2_with (at_builtin; refine append_ob _ rfl _ _ 51 rfl i0 Tryz.underlying51 hi hz0 hz1 hz2 _ _ rfl HX2.out ⟨w1.heap.size, 0, none⟩ 1 58 rfl ?c1s0b ?c2s0b ?_)
        try case c1s0b => first | exact new_cell w1 _ _ | simp
        try case c2s0b => first | omega | (rw [List.length_append, List.length_singleton]; omega)
        intro v2 w2 ob2 hgr2 _
        have hb2 := HB1.out.alloc HB1.out.size (Obj.cells #[.int .u8 58] 5)
        have HB2 := hide (hb2.grown hgr2 hb2.size (fun q hq => (HLT1.out q hq).1))
        have HO2 : Hid (Ob X0.heap.size w2 v2 ((32 :: wid 0 ((bys s).take (j + 1))).map UInt8.toNat)) := by rw [EY.out]; exact ob2
        clear HX2 HO1 HB1 HLT1 ob2 hgr2 hb2 EY
        go_wp2
        go_roundw
        case rel => exact ⟨j + 1, by omega, HO2, by go_num, HB2⟩
        case measure => simp [intOf]; omega
      by_cases h59 : b = 59
      · subst h59
        have EY := hide (MB.out (lst 0 ((bys s).take j)).toNat (rfl))
        rw [show isBn (lst 0 ((bys s).take j)).toNat 59 = true from rfl, if_pos rfl] at EY
        clear MB MO LA HG HW WL
        have HX1 := hide (hob.out.below ((Below.refl _ _).alloc (Nat.le_refl _) (Obj.cells #[.int .u8 32] 5)))
        go_wp2_with (at_builtin; refine append_ob _ rfl _ _ 51 rfl i0 Tryz.underlying51 hi hz0 hz1 hz2 _ _ rfl HX1.out ⟨wr.heap.size, 0, none⟩ 1 32 rfl ?c1s1a ?c2s1a ?_)
        try case c1s1a => first | exact new_cell wr _ _ | simp
        try case c2s1a => first | omega | (rw [List.length_append, List.length_singleton]; omega)
        intro v1 w1 ob1 hgr1 _
        have hb1 := hbw.out.alloc hbw.out.size (Obj.cells #[.int .u8 32] 5)
        have HB1 := hide (hb1.grown hgr1 hb1.size (fun q hq => (HLT.out q hq).1))
        have HO1 := hide ob1
        have HLT1 := hide (HO1.out.lt)
        clear hob hbw HX1 HLT ob1 hgr1 hb1
        have HX2 := hide (HO1.out.below ((Below.refl _ _).alloc (Nat.le_refl _) (Obj.cells #[.int .u8 59] 5)))
        go_wp2_with (at_builtin; refine append_ob _ rfl _ _ 51 rfl i0 Tryz.underlying51 hi hz0 hz1 hz2 _ _ rfl HX2.out ⟨w1.heap.size, 0, none⟩ 1 59 rfl ?c1s1b ?c2s1b ?_)
        try case c1s1b => first | exact new_cell w1 _ _ | simp
        try case c2s1b => first | omega | (rw [List.length_append, List.length_singleton]; omega)
        intro v2 w2 ob2 hgr2 _
        have hb2 := HB1.out.alloc HB1.out.size (Obj.cells #[.int .u8 59] 5)
        have HB2 := hide (hb2.grown hgr2 hb2.size (fun q hq => (HLT1.out q hq).1))
        have HO2 : Hid (Ob X0.heap.size w2 v2 ((32 :: wid 0 ((bys s).take (j + 1))).map UInt8.toNat)) := by rw [EY.out]; exact ob2
        clear HX2 HO1 HB1 HLT1 ob2 hgr2 hb2 EY
        go_wp2
        go_roundw
        case rel => exact ⟨j + 1, by omega, HO2, by go_num, HB2⟩
        case measure => simp [intOf]; omega
      by_cases h37 : b = 37
      · subst h37
        have EY := hide (MB.out (lst 0 ((bys s).take j)).toNat (rfl))
        rw [show isBn (lst 0 ((bys s).take j)).toNat 37 = true from rfl, if_pos rfl] at EY
        clear MB MO LA HG HW WL
        have HX1 := hide (hob.out.below ((Below.refl _ _).alloc (Nat.le_refl _) (Obj.cells #[.int .u8 32] 5)))
        go_wp2_with (at_builtin; refine append_ob _ rfl _ _ 51 rfl i0 Tryz.underlying51 hi hz0 hz1 hz2 _ _ rfl HX1.out ⟨wr.heap.size, 0, none⟩ 1 32 rfl ?c1s2a ?c2s2a ?_)
        try case c1s2a => first | exact new_cell wr _ _ | simp
        try case c2s2a => first | omega | (rw [List.length_append, List.length_singleton]; omega)
        intro v1 w1 ob1 hgr1 _
        have hb1 := hbw.out.alloc hbw.out.size (Obj.cells #[.int .u8 32] 5)
        have HB1 := hide (hb1.grown hgr1 hb1.size (fun q hq => (HLT.out q hq).1))
        have HO1 := hide ob1
        have HLT1 := hide (HO1.out.lt)
        clear hob hbw HX1 HLT ob1 hgr1 hb1
        have HX2 := hide (HO1.out.below ((Below.refl _ _).alloc (Nat.le_refl _) (Obj.cells #[.int .u8 37] 5)))
        go_wp2_with (at_builtin; refine append_ob _ rfl _ _ 51 rfl i0 Tryz.underlying51 hi hz0 hz1 hz2 _ _ rfl HX2.out ⟨w1.heap.size, 0, none⟩ 1 37 rfl ?c1s2b ?c2s2b ?_)
        try case c1s2b => first | exact new_cell w1 _ _ | simp
        try case c2s2b => first | omega | (rw [List.length_append, List.length_singleton]; omega)
        intro v2 w2 ob2 hgr2 _
        have hb2 := HB1.out.alloc HB1.out.size (Obj.cells #[.int .u8 37] 5)
        have HB2 := hide (hb2.grown hgr2 hb2.size (fun q hq => (HLT1.out q hq).1))
        have HO2 : Hid (Ob X0.heap.size w2 v2 ((32 :: wid 0 ((bys s).take (j + 1))).map UInt8.toNat)) := by rw [EY.out]; exact ob2
        clear HX2 HO1 HB1 HLT1 ob2 hgr2 hb2 EY
        go_wp2
        go_roundw
        case rel => exact ⟨j + 1, by omega, HO2, by go_num, HB2⟩
        case measure => simp [intOf]; omega
      by_cases h44 : b = 44
      · subst h44
        have EY := hide (MB.out (lst 0 ((bys s).take j)).toNat (rfl))
        rw [show isBn (lst 0 ((bys s).take j)).toNat 44 = true from rfl, if_pos rfl] at EY
        clear MB MO LA HG HW WL
        have HX1 := hide (hob.out.below ((Below.refl _ _).alloc (Nat.le_refl _) (Obj.cells #[.int .u8 32] 5)))
        go_wp2_with (at_builtin; refine append_ob _ rfl _ _ 51 rfl i0 Tryz.underlying51 hi hz0 hz1 hz2 _ _ rfl HX1.out ⟨wr.heap.size, 0, none⟩ 1 32 rfl ?c1s3a ?c2s3a ?_)
        try case c1s3a => first | exact new_cell wr _ _ | simp
        try case c2s3a => first | omega | (rw [List.length_append, List.length_singleton]; omega)
        intro v1 w1 ob1 hgr1 _
        have hb1 := hbw.out.alloc hbw.out.size (Obj.cells #[.int .u8 32] 5)
        have HB1 := hide (hb1.grown hgr1 hb1.size (fun q hq => (HLT.out q hq).1))
        have HO1 := hide ob1
        have HLT1 := hide (HO1.out.lt)
        clear hob hbw HX1 HLT ob1 hgr1 hb1
        have HX2 := hide (HO1.out.below ((Below.refl _ _).alloc (Nat.le_refl _) (Obj.cells #[.int .u8 44] 5)))
        go_wp2_with (at_builtin; refine append_ob _ rfl _ _ 51 rfl i0 Tryz.underlying51 hi hz0 hz1 hz2 _ _ rfl HX2.out ⟨w1.heap.size, 0, none⟩ 1 44 rfl ?c1s3b ?c2s3b ?_)
        try case c1s3b => first | exact new_cell w1 _ _ | simp
        try case c2s3b => first | omega | (rw [List.length_append, List.length_singleton]; omega)
        intro v2 w2 ob2 hgr2 _
        have hb2 := HB1.out.alloc HB1.out.size (Obj.cells #[.int .u8 44] 5)
        have HB2 := hide (hb2.grown hgr2 hb2.size (fun q hq => (HLT1.out q hq).1))
        have HO2 : Hid (Ob X0.heap.size w2 v2 ((32 :: wid 0 ((bys s).take (j + 1))).map UInt8.toNat)) := by rw [EY.out]; exact ob2
        clear HX2 HO1 HB1 HLT1 ob2 hgr2 hb2 EY
        go_wp2
        go_roundw
        case rel => exact ⟨j + 1, by omega, HO2, by go_num, HB2⟩
        case measure => simp [intOf]; omega
      by_cases h33 : b = 33
      · subst h33
        have EY := hide (MB.out (lst 0 ((bys s).take j)).toNat (rfl))
        rw [show isBn (lst 0 ((bys s).take j)).toNat 33 = true from rfl, if_pos rfl] at EY
        clear MB MO LA HG HW WL
        have HX1 := hide (hob.out.below ((Below.refl _ _).alloc (Nat.le_refl _) (Obj.cells #[.int .u8 32] 5)))
        go_wp2_with (at_builtin; refine append_ob _ rfl _ _ 51 rfl i0 Tryz.underlying51 hi hz0 hz1 hz2 _ _ rfl HX1.out ⟨wr.heap.size, 0, none⟩ 1 32 rfl ?c1s4a ?c2s4a ?_)
        try case c1s4a => first | exact new_cell wr _ _ | simp
        try case c2s4a => first | omega | (rw [List.length_append, List.length_singleton]; omega)
        intro v1 w1 ob1 hgr1 _
        have hb1 := hbw.out.alloc hbw.out.size (Obj.cells #[.int .u8 32] 5)
        have HB1 := hide (hb1.grown hgr1 hb1.size (fun q hq => (HLT.out q hq).1))
        have HO1 := hide ob1
        have HLT1 := hide (HO1.out.lt)
        clear hob hbw HX1 HLT ob1 hgr1 hb1
        have HX2 := hide (HO1.out.below ((Below.refl _ _).alloc (Nat.le_refl _) (Obj.cells #[.int .u8 33] 5)))
        go_wp2_with (at_builtin; refine append_ob _ rfl _ _ 51 rfl i0 Tryz.underlying51 hi hz0 hz1 hz2 _ _ rfl HX2.out ⟨w1.heap.size, 0, none⟩ 1 33 rfl ?c1s4b ?c2s4b ?_)
        try case c1s4b => first | exact new_cell w1 _ _ | simp
        try case c2s4b => first | omega | (rw [List.length_append, List.length_singleton]; omega)
        intro v2 w2 ob2 hgr2 _
        have hb2 := HB1.out.alloc HB1.out.size (Obj.cells #[.int .u8 33] 5)
        have HB2 := hide (hb2.grown hgr2 hb2.size (fun q hq => (HLT1.out q hq).1))
        have HO2 : Hid (Ob X0.heap.size w2 v2 ((32 :: wid 0 ((bys s).take (j + 1))).map UInt8.toNat)) := by rw [EY.out]; exact ob2
        clear HX2 HO1 HB1 HLT1 ob2 hgr2 hb2 EY
        go_wp2
        go_roundw
        case rel => exact ⟨j + 1, by omega, HO2, by go_num, HB2⟩
        case measure => simp [intOf]; omega
      by_cases h61 : b = 61
      · subst h61
        by_cases hj0 : j = 0
        · subst hj0
          have EY := hide (MB.out 0 (rfl))
          rw [show isBn 0 61 = true from rfl, if_pos rfl] at EY
          clear MB MO LA HG HW WL
          have HX1 := hide (hob.out.below ((Below.refl _ _).alloc (Nat.le_refl _) (Obj.cells #[.int .u8 32] 5)))
          go_wp2_with (at_builtin; refine append_ob _ rfl _ _ 51 rfl i0 Tryz.underlying51 hi hz0 hz1 hz2 _ _ rfl HX1.out ⟨wr.heap.size, 0, none⟩ 1 32 rfl ?c1za ?c2za ?_)
          try case c1za => first | exact new_cell wr _ _ | simp
          try case c2za => first | omega | (rw [List.length_append, List.length_singleton]; omega)
          intro v1 w1 ob1 hgr1 _
          have hb1 := hbw.out.alloc hbw.out.size (Obj.cells #[.int .u8 32] 5)
          have HB1 := hide (hb1.grown hgr1 hb1.size (fun q hq => (HLT.out q hq).1))
          have HO1 := hide ob1
          have HLT1 := hide (HO1.out.lt)
          clear hob hbw HX1 HLT ob1 hgr1 hb1
          have HX2 := hide (HO1.out.below ((Below.refl _ _).alloc (Nat.le_refl _) (Obj.cells #[.int .u8 61] 5)))
          go_wp2_with (at_builtin; refine append_ob _ rfl _ _ 51 rfl i0 Tryz.underlying51 hi hz0 hz1 hz2 _ _ rfl HX2.out ⟨w1.heap.size, 0, none⟩ 1 61 rfl ?c1zb ?c2zb ?_)
          try case c1zb => first | exact new_cell w1 _ _ | simp
          try case c2zb => first | omega | (rw [List.length_append, List.length_singleton]; omega)
          intro v2 w2 ob2 hgr2 _
          have hb2 := HB1.out.alloc HB1.out.size (Obj.cells #[.int .u8 61] 5)
          have HB2 := hide (hb2.grown hgr2 hb2.size (fun q hq => (HLT1.out q hq).1))
          have HO2 : Hid (Ob X0.heap.size w2 v2 ((32 :: wid 0 ((bys s).take (0 + 1))).map UInt8.toNat)) := by rw [EY.out]; exact ob2
          clear HX2 HO1 HB1 HLT1 ob2 hgr2 hb2 EY
          go_wp2
          go_roundw
          case rel => exact ⟨0 + 1, by omega, HO2, by go_num, HB2⟩
          case measure => simp [intOf]; omega
        obtain ⟨k, rfl⟩ : ∃ k, j = k + 1 := ⟨j - 1, by omega⟩
        have hk' : (k : Int) < (s.size : Int) := by omega
        have hgk : ∀ h : k < s.size, s[k].toNat = byt (bys s) k := fun h => HG.out k h
        have hla := LA.out k (by omega)
        have hp256 : byt (bys s) k < 256 := byt_lt _ _
        have hk0 : ¬ ((k + 1 : Nat) : Int) = 0 := by omega
        obtain ⟨q, hqq⟩ : ∃ q, q = byt (bys s) k := ⟨_, rfl⟩
        rw [← hqq] at hgk hla hp256
        clear hqq
        by_cases hp33 : q = 33
        · subst hp33
          have EY := hide (MB.out 33 (hla))
          rw [show isBn 33 61 = false from rfl, if_neg (by simp)] at EY
          clear MB MO LA HG HW WL
          have HX2 := hide (hob.out.below ((Below.refl _ _).alloc (Nat.le_refl _) (Obj.cells #[.int .u8 61] 5)))
          go_wp2_with (at_builtin; refine append_ob _ rfl _ _ 51 rfl i0 Tryz.underlying51 hi hz0 hz1 hz2 _ _ rfl HX2.out ⟨wr.heap.size, 0, none⟩ 1 61 rfl ?c1yb ?c2yb ?_)
          try case c1yb => first | exact new_cell wr _ _ | simp
          try case c2yb => first | omega | (rw [List.length_append, List.length_singleton]; omega)
          intro v2 w2 ob2 hgr2 _
          have hb2 := hbw.out.alloc hbw.out.size (Obj.cells #[.int .u8 61] 5)
          have HB2 := hide (hb2.grown hgr2 hb2.size (fun q hq => (HLT.out q hq).1))
          have HO2 : Hid (Ob X0.heap.size w2 v2 ((32 :: wid 0 ((bys s).take ((k + 1) + 1))).map UInt8.toNat)) := by rw [EY.out]; exact ob2
          clear HX2 hob hbw HLT ob2 hgr2 hb2 EY
          go_wp2
          go_roundw
          case rel => exact ⟨(k + 1) + 1, by omega, HO2, by go_num, HB2⟩
          case measure => simp [intOf]; omega
        · have hq33 : ((q : Int) != 33) = true := by rw [bne_iff_ne]; omega
          have hq33' : ¬ (q : Int) = 33 := by omega
          have EY := hide (MB.out q (hla))
          rw [show isBn q 61 = true from isB_eq hp33, if_pos rfl] at EY
          clear MB MO LA HG HW WL
          have HX1 := hide (hob.out.below ((Below.refl _ _).alloc (Nat.le_refl _) (Obj.cells #[.int .u8 32] 5)))
          go_wp2_with (at_builtin; refine append_ob _ rfl _ _ 51 rfl i0 Tryz.underlying51 hi hz0 hz1 hz2 _ _ rfl HX1.out ⟨wr.heap.size, 0, none⟩ 1 32 rfl ?c1pa ?c2pa ?_)
          try case c1pa => first | exact new_cell wr _ _ | simp
          try case c2pa => first | omega | (rw [List.length_append, List.length_singleton]; omega)
          intro v1 w1 ob1 hgr1 _
          have hb1 := hbw.out.alloc hbw.out.size (Obj.cells #[.int .u8 32] 5)
          have HB1 := hide (hb1.grown hgr1 hb1.size (fun q hq => (HLT.out q hq).1))
          have HO1 := hide ob1
          have HLT1 := hide (HO1.out.lt)
          clear hob hbw HX1 HLT ob1 hgr1 hb1
          have HX2 := hide (HO1.out.below ((Below.refl _ _).alloc (Nat.le_refl _) (Obj.cells #[.int .u8 61] 5)))
          go_wp2_with (at_builtin; refine append_ob _ rfl _ _ 51 rfl i0 Tryz.underlying51 hi hz0 hz1 hz2 _ _ rfl HX2.out ⟨w1.heap.size, 0, none⟩ 1 61 rfl ?c1pb ?c2pb ?_)
          try case c1pb => first | exact new_cell w1 _ _ | simp
          try case c2pb => first | omega | (rw [List.length_append, List.length_singleton]; omega)
          intro v2 w2 ob2 hgr2 _
          have hb2 := HB1.out.alloc HB1.out.size (Obj.cells #[.int .u8 61] 5)
          have HB2 := hide (hb2.grown hgr2 hb2.size (fun q hq => (HLT1.out q hq).1))
          have HO2 : Hid (Ob X0.heap.size w2 v2 ((32 :: wid 0 ((bys s).take ((k + 1) + 1))).map UInt8.toNat)) := by rw [EY.out]; exact ob2
          clear HX2 HO1 HB1 HLT1 ob2 hgr2 hb2 EY
          go_wp2
          go_roundw
          case rel => exact ⟨(k + 1) + 1, by omega, HO2, by go_num, HB2⟩
          case measure => simp [intOf]; omega
      have q58 : ((b : Int) == 58) = false := beq_eq_false_iff_ne.2 (by omega)
      have q59 : ((b : Int) == 59) = false := beq_eq_false_iff_ne.2 (by omega)
      have q37 : ((b : Int) == 37) = false := beq_eq_false_iff_ne.2 (by omega)
      have q44 : ((b : Int) == 44) = false := beq_eq_false_iff_ne.2 (by omega)
      have q33 : ((b : Int) == 33) = false := beq_eq_false_iff_ne.2 (by omega)
      have q61 : ((b : Int) == 61) = false := beq_eq_false_iff_ne.2 (by omega)
      have EY := hide (MB.out (lst 0 ((bys s).take j)).toNat (rfl))
      rw [show isBn (lst 0 ((bys s).take j)).toNat b = false from isB_no h58 h59 h37 h44 h33 h61, if_neg (by simp)] at EY
      clear MB MO LA HG HW WL
      have HX2 := hide (hob.out.below ((Below.refl _ _).alloc (Nat.le_refl _) (Obj.cells #[.int .u8 (b : Int)] 5)))
      go_wp2_with (at_builtin; refine append_ob _ rfl _ _ 51 rfl i0 Tryz.underlying51 hi hz0 hz1 hz2 _ _ rfl HX2.out ⟨wr.heap.size, 0, none⟩ 1 b rfl ?c1nb ?c2nb ?_)
      try case c1nb => first | exact new_cell wr _ _ | simp
      try case c2nb => first | omega | (rw [List.length_append, List.length_singleton]; omega)
      intro v2 w2 ob2 hgr2 _
      have hb2 := hbw.out.alloc hbw.out.size (Obj.cells #[.int .u8 (b : Int)] 5)
      have HB2 := hide (hb2.grown hgr2 hb2.size (fun q hq => (HLT.out q hq).1))
      have HO2 : Hid (Ob X0.heap.size w2 v2 ((32 :: wid 0 ((bys s).take (j + 1))).map UInt8.toNat)) := by rw [EY.out]; exact ob2
      clear HX2 hob hbw HLT ob2 hgr2 hb2 EY
      go_wp2
      go_roundw
      case rel => exact ⟨j + 1, by omega, HO2, by go_num, HB2⟩
      case measure => simp [intOf]; omega
    · obtain rfl : j = s.size := by omega
      have hlt' : ¬ (s.size : Int) < (s.size : Int) := by omega
      have hl := WL.out s.size
      rw [show (bys s).take s.size = bys s from List.take_of_length_le (by rw [bys_len]; exact Nat.le_refl _)] at hob hl
      have HLT := hide (hob.out.lt)
      have EY : Hid ((32 :: wid 0 (bys s) ++ [32]).map UInt8.toNat = (32 :: wid 0 (bys s)).map UInt8.toNat ++ [32]) := by rw [List.map_append]; rfl
      obtain ⟨ys, hys⟩ : ∃ ys, ys = (32 :: wid 0 (bys s)).map UInt8.toNat := ⟨_, rfl⟩
      rw [← hys] at hob EY hl
      clear hys MO LA HG WL
      have HX1 := hide (hob.out.below ((Below.refl _ _).alloc (Nat.le_refl _) (Obj.cells #[.int .u8 32] 5)))
      go_wp2_with (at_builtin; refine append_ob _ rfl _ _ 51 rfl i0 Tryz.underlying51 hi hz0 hz1 hz2 _ _ rfl HX1.out ⟨wr.heap.size, 0, none⟩ 1 32 rfl ?c1e ?c2e ?_)
      try case c1e => first | exact new_cell wr _ _ | simp
      try case c2e => first | omega | (rw [List.length_append, List.length_singleton]; omega)
      intro v1 w1 ob1 hgr1 _
      have hb1 := hbw.out.alloc hbw.out.size (Obj.cells #[.int .u8 32] 5)
      have HB1 := hide (hb1.grown hgr1 hb1.size (fun q hq => (HLT.out q hq).1))
      have HO1 : Hid (Ob X0.heap.size w1 v1 ((32 :: wid 0 (bys s) ++ [32]).map UInt8.toNat)) := by rw [EY.out]; exact ob1
      clear hob hbw HX1 HLT ob1 hgr1 hb1 EY hl ys hj hlt
      obtain ⟨Lw, hLw⟩ : ∃ l, l = 32 :: wid 0 (bys s) ++ [32] := ⟨_, rfl⟩
      rw [← hLw] at HO1 HW K2
      have h3m : Lw.length ≤ 3000000 := by
        rw [hLw]
        have h1 := wid_len 0 (bys s)
        rw [bys_len] at h1
        simp; omega
      clear hLw
      have BX1 := hide (BX0.out.below HB1.out BX0.out.lt)
      have HBw := hide (HB0.out.trans (HB1.out.mono HB0.out.size))
      obtain ⟨ga, ca, hva⟩ : ∃ ga ca, v1 = Value.slice (some ⟨ga, 0, none⟩) Lw.length ca := by
        obtain ⟨ga, ca, cur, fz, e, _⟩ := HO1.out
        exact ⟨ga, ca, by rw [e, List.length_map]⟩
      subst hva
      clear HB1 BX0 HB0
      obtain ⟨o0, o1, o2, o3, o4, o5⟩ := BX1.out.six
      go_wp2_with fail
      refine (K1.out _ HBw.out).mono ?_
      rintro e' w2 ⟨rfl, hb⟩
      have HB2 := hide (HBw.out.trans (hb.mono HBw.out.size))
      have BX2 := Blk.on BX1 hb
      have HO2 := hide (HO1.out.below hb)
      have kc := convB_ob HO2.out
      clear hb K1 HBw BX1 HO1 o0 o1 o2 o3 o4 o5
      obtain ⟨o0, o1, o2, o3, o4, o5⟩ := BX2.out.six
      go_wp2_with fail
      refine (K2.out _ HB2.out).mono ?_
      rintro e' w3 ⟨rfl, hb⟩
      have HB3 := hide (HB2.out.trans (hb.mono HB2.out.size))
      clear hb K2 HB2 BX2 HO2 kc o0 o1 o2 o3 o4 o5
      go_wp2_with fail
      refine (K3.out _ HB3.out).mono ?_
      rintro e' w4 ⟨rfl, hb⟩
      have HB4 := hide (HB3.out.trans (hb.mono HB3.out.size))
      clear hb K3 HB3
      by_cases hlong : 1024 < Lw.length
      · have hlong' : (1024 : Int) < (Lw.length : Int) := by omega
        clear HW
        go_wp2
        go_ret
        exact ⟨rfl, HB4.out⟩
      · have hlong' : ¬ (1024 : Int) < (Lw.length : Int) := by omega
        have hw := HW.out (by omega)
        simp only [Prod.mk.injEq] at hw
        obtain ⟨rfl, rfl⟩ := hw
        have hq1 : (B1 == B1) = true := by simp
        have hq2 : (B2 == B2) = true := by simp
        clear HW
        go_wp2
        go_ret
        exact ⟨rfl, HB4.out⟩

theorem blanks_row (w : World) (he : Evs w) (s : ByteArray) (hs : s.size ≤ 1048576) (i : ByteArray) (v z : Int) (f t : ByteArray) (e : Int) (_ : i.size ≤ 140737488355328) (_ : f.size ≤ 140737488355328) (_ : t.size ≤ 140737488355328) :
    Calls Tryz.prog 9 #[.string s, .agg #[.string i, .int .i64 v, .int .i64 z, .string f, .string t, .int .i64 e]] w fun e' w' => e' = .returned (.bool true) ∧ Below w.heap.size w w' :=
  blanks_walk s i v z f t e w hs he

end Go.Proofs.YthkkndaednienaaGreatDoor

namespace Go.Proofs.YthkkndaednienaaGreatDoor
open Go.RowKit

def tabVals : DataW Unit → Array Value
  | .agg l => (l.flatMap fun
      | .lit (.int k z) => [Value.int k z]
      | .agg l2 => l2.map fun
        | .lit (.int k z) => Value.int k z
        | _ => .int .u8 0
      | _ => []).toArray
  | _ => #[]

def putVals (d : DataW Unit) : Obj → Obj
  | .cells _ t frozen => .cells (tabVals d) t frozen
  | o => o

def errText : DataW Unit → ByteArray
  | .iface _ (.ptr (.agg [.lit (.string l)])) => ⟨l.toArray⟩
  | _ => ⟨#[]⟩

def putErr (b : Nat) : Obj → Obj
  | .cells _ t frozen => .cells #[.iface 288 (.pointer (some ⟨b, 0, none⟩))] t frozen
  | o => o

noncomputable def laidWorld (os : Os) : World :=
  { World.holding Tryz.prog os ⟨#[], #[], []⟩ with
    heap := (((((((((World.holding Tryz.prog os ⟨#[], #[], []⟩).heap.modify 8 (putVals Rows.laid_math_bits_deBruijn32tab)).modify 9 (putVals Rows.laid_math_bits_deBruijn64tab)).modify 3 (putVals Rows.laid_internal_strconv_uint64pow10)).modify 5 (putVals Rows.laid_unicode_utf8_acceptRanges)).modify 4 (putVals Rows.laid_unicode_utf8_first)).modify 1 (putErr (World.holding Tryz.prog os ⟨#[], #[], []⟩).heap.size)).modify 0 (putErr ((World.holding Tryz.prog os ⟨#[], #[], []⟩).heap.size + 1))).push (.cells #[.string (errText Rows.laid_strconv_ErrRange)] 290)).push (.cells #[.string (errText Rows.laid_strconv_ErrSyntax)] 290) }

end Go.Proofs.YthkkndaednienaaGreatDoor

namespace Go.Proofs.YthkkndaednienaaGreatDoor
open Go.RowKit

theorem evs_of_trod {W : World} {nm : String} {cs : Array Value} {fuel : Nat} {p : List MemPlace} {name : String} {d : DataW Unit} {t : TypeId} (hv : W.var? Tryz.prog nm = some cs) (ht : t = 107)
    (hd : DataW.trod (fun _ => ()) Tryz.prog W 0 (fun _ => true) false fuel t cs.toList = some (.iface name d, p)) : ∃ tp q, W.var? Tryz.prog nm = some #[.iface tp q] := by
  subst ht
  obtain ⟨_, u, v, hc, _, _⟩ := iface_of_trod Tryz.underlying107 hd
  obtain rfl : cs = #[.iface u v] := by cases cs; simp_all
  exact ⟨u, v, hv⟩

theorem teR : (Tryz.prog.globalNamed "strconv.ErrRange").bind (fun g => (Tryz.prog.globals[g]?).map (·.type)) = some 107 := by kernel_rfl
theorem teS : (Tryz.prog.globalNamed "strconv.ErrSyntax").bind (fun g => (Tryz.prog.globals[g]?).map (·.type)) = some 107 := by kernel_rfl

theorem evs {W : World} (h : laidMetH Tryz.prog [("math/bits.deBruijn32tab", Rows.laid_math_bits_deBruijn32tab), ("math/bits.deBruijn64tab", Rows.laid_math_bits_deBruijn64tab), ("internal/strconv.uint64pow10", Rows.laid_internal_strconv_uint64pow10), ("unicode/utf8.acceptRanges", Rows.laid_unicode_utf8_acceptRanges), ("strconv.ErrRange", Rows.laid_strconv_ErrRange), ("strconv.ErrSyntax", Rows.laid_strconv_ErrSyntax), ("unicode/utf8.first", Rows.laid_unicode_utf8_first)] W) : Evs W := by
  have h' : laidMet Tryz.prog [("math/bits.deBruijn32tab", Rows.laid_math_bits_deBruijn32tab), ("math/bits.deBruijn64tab", Rows.laid_math_bits_deBruijn64tab), ("internal/strconv.uint64pow10", Rows.laid_internal_strconv_uint64pow10), ("unicode/utf8.acceptRanges", Rows.laid_unicode_utf8_acceptRanges), ("strconv.ErrRange", Rows.laid_strconv_ErrRange), ("strconv.ErrSyntax", Rows.laid_strconv_ErrSyntax), ("unicode/utf8.first", Rows.laid_unicode_utf8_first)] W := h
  obtain ⟨ps, ⟨_, _, _, _, _, q1, _, _, _, _, ⟨_, _, _, _, _, q2, _, _, _, _, ⟨_, _, _, _, _, q3, _, _, _, _, ⟨_, _, _, _, _, q4, _, _, _, _, ⟨g5, t5, c5, f5, p5, q5, hg5, ht5, hv5, hd5, ⟨g6, t6, c6, f6, p6, q6, hg6, ht6, hv6, hd6, _, _⟩, _⟩, _⟩, _⟩, _⟩, _⟩, _⟩ := h'
  have e5 := teR
  rw [hg5] at e5
  have e6 := teS
  rw [hg6] at e6
  exact ⟨evs_of_trod hv6 (Option.some.inj (ht6.symm.trans e6)) hd6, evs_of_trod hv5 (Option.some.inj (ht5.symm.trans e5)) hd5⟩

end Go.Proofs.YthkkndaednienaaGreatDoor
