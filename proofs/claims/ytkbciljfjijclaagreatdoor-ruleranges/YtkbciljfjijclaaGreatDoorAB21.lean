/-
  The deferred functions of rule's faces, and Check.
  What rule's left, valueOf and value do.
  What rule's value does.
  What rule's found and holds (of a relation) do.
  What rule's holds, eachHolds and firstThatHolds do.
  What rule's Pick does.
-/
import Derived.Test.YtkbciljfjijclaaGreatDoorAB20
import Derived.Defers
import Derived.Recover
namespace Go.Proofs.YtkbciljfjijclaaGreatDoor
open Go.RowKit

theorem catch_Check (p : Addr) (x : Value) (u : TypeId) (pv : Value) (older : List PanicEntry) (w : World) (hc : w.cell? p = some x) (hz : w.frozen? p = false) :
    CallsD Tryz.prog 51 #[.pointer (some p)] (.panicking ({ v := .iface u pv, recovered := false } :: older)) w fun e u' w' =>
      e = .returned (.tuple #[]) ∧ u' = .panicking ({ v := .iface u pv, recovered := true } :: older) ∧ w' = w.setCell p (.int .i64 90) := by
  refine callsD_of_wpS Tryz.func51 rfl fun c₀ cs hu => ?_
  apply wpS_seq
  apply wpS_region
  simp [wpOpsS, go_sem, recoverD, hu, Tryz.ntmps51, Exit.thenS]
  refine wpS_cond (t := true) (by simp [Act.eval, Array.replicate]) ?_
  simp only [if_true]
  apply wpS_region
  simp [wpOpsS, go_sem, hc, hz, bodyPostS, results, Tryz.results51]

theorem idle_Check (p : Addr) (w : World) : CallsD Tryz.prog 51 #[.pointer (some p)] .returning w fun e u' w' => e = .returned (.tuple #[]) ∧ u' = .returning ∧ w' = w := by
  refine callsD_of_wpS Tryz.func51 rfl fun c₀ cs hu => ?_
  apply wpS_seq
  apply wpS_region
  simp [wpOpsS, go_sem, recoverD, hu, Tryz.ntmps51, Exit.thenS]
  refine wpS_cond (t := false) (by simp [Act.eval, Array.replicate]) ?_
  simp only [Bool.false_eq_true, if_false]
  refine wpS_of_wp (wp_skip ?_)
  cases c₀
  simp_all [bodyPostS, results, Tryz.results51]

theorem catch_CheckRanges (p : Addr) (x : Value) (u : TypeId) (pv : Value) (older : List PanicEntry) (w : World) (hc : w.cell? p = some x) (hz : w.frozen? p = false) :
    CallsD Tryz.prog 57 #[.pointer (some p)] (.panicking ({ v := .iface u pv, recovered := false } :: older)) w fun e u' w' =>
      e = .returned (.tuple #[]) ∧ u' = .panicking ({ v := .iface u pv, recovered := true } :: older) ∧ w' = w.setCell p (.int .i64 90) := by
  refine callsD_of_wpS Tryz.func57 rfl fun c₀ cs hu => ?_
  apply wpS_seq
  apply wpS_region
  simp [wpOpsS, go_sem, recoverD, hu, Tryz.ntmps57, Exit.thenS]
  refine wpS_cond (t := true) (by simp [Act.eval, Array.replicate]) ?_
  simp only [if_true]
  apply wpS_region
  simp [wpOpsS, go_sem, hc, hz, bodyPostS, results, Tryz.results57]

theorem idle_CheckRanges (p : Addr) (w : World) : CallsD Tryz.prog 57 #[.pointer (some p)] .returning w fun e u' w' => e = .returned (.tuple #[]) ∧ u' = .returning ∧ w' = w := by
  refine callsD_of_wpS Tryz.func57 rfl fun c₀ cs hu => ?_
  apply wpS_seq
  apply wpS_region
  simp [wpOpsS, go_sem, recoverD, hu, Tryz.ntmps57, Exit.thenS]
  refine wpS_cond (t := false) (by simp [Act.eval, Array.replicate]) ?_
  simp only [Bool.false_eq_true, if_false]
  refine wpS_of_wp (wp_skip ?_)
  cases c₀
  simp_all [bodyPostS, results, Tryz.results57]

theorem catch_Pick (p q : Addr) (x y : Value) (u : TypeId) (pv : Value) (older : List PanicEntry) (w : World) (hpq : ¬ p.block = q.block) (hc : w.cell? p = some x) (hz : w.frozen? p = false) (hc2 : w.cell? q = some y) (hz2 : w.frozen? q = false) :
    CallsD Tryz.prog 44 #[.pointer (some p), .pointer (some q)] (.panicking ({ v := .iface u pv, recovered := false } :: older)) w fun e u' w' =>
      e = .returned (.tuple #[]) ∧ u' = .panicking ({ v := .iface u pv, recovered := true } :: older) ∧ w' = (w.setCell p (.int .i64 0)).setCell q (.int .i64 90) := by
  have hc3 : (w.setCell p (.int .i64 0)).cell? q = some y := by rw [World.cell?_setCell_other _ _ _ _ (fun e => hpq (by rw [e]))]; exact hc2
  have hz3 : (w.setCell p (.int .i64 0)).frozen? q = false := by rw [World.frozen?_setCell]; exact hz2
  refine callsD_of_wpS Tryz.func44 rfl fun c₀ cs hu => ?_
  apply wpS_seq
  apply wpS_region
  simp [wpOpsS, go_sem, recoverD, hu, Tryz.ntmps44, Exit.thenS]
  refine wpS_cond (t := true) (by simp [Act.eval, Array.replicate]) ?_
  simp only [if_true]
  apply wpS_region
  simp [wpOpsS, go_sem, hc, hz, hc3, hz3, bodyPostS, results, Tryz.results44]

theorem idle_Pick (p q : Addr) (w : World) : CallsD Tryz.prog 44 #[.pointer (some p), .pointer (some q)] .returning w fun e u' w' => e = .returned (.tuple #[]) ∧ u' = .returning ∧ w' = w := by
  refine callsD_of_wpS Tryz.func44 rfl fun c₀ cs hu => ?_
  apply wpS_seq
  apply wpS_region
  simp [wpOpsS, go_sem, recoverD, hu, Tryz.ntmps44, Exit.thenS]
  refine wpS_cond (t := false) (by simp [Act.eval, Array.replicate]) ?_
  simp only [Bool.false_eq_true, if_false]
  refine wpS_of_wp (wp_skip ?_)
  cases c₀
  simp_all [bodyPostS, results, Tryz.results44]

theorem catch_PickRange (p q : Addr) (x y : Value) (u : TypeId) (pv : Value) (older : List PanicEntry) (w : World) (hpq : ¬ p.block = q.block) (hc : w.cell? p = some x) (hz : w.frozen? p = false) (hc2 : w.cell? q = some y) (hz2 : w.frozen? q = false) :
    CallsD Tryz.prog 52 #[.pointer (some p), .pointer (some q)] (.panicking ({ v := .iface u pv, recovered := false } :: older)) w fun e u' w' =>
      e = .returned (.tuple #[]) ∧ u' = .panicking ({ v := .iface u pv, recovered := true } :: older) ∧ w' = (w.setCell p (.int .i64 0)).setCell q (.int .i64 90) := by
  have hc3 : (w.setCell p (.int .i64 0)).cell? q = some y := by rw [World.cell?_setCell_other _ _ _ _ (fun e => hpq (by rw [e]))]; exact hc2
  have hz3 : (w.setCell p (.int .i64 0)).frozen? q = false := by rw [World.frozen?_setCell]; exact hz2
  refine callsD_of_wpS Tryz.func52 rfl fun c₀ cs hu => ?_
  apply wpS_seq
  apply wpS_region
  simp [wpOpsS, go_sem, recoverD, hu, Tryz.ntmps52, Exit.thenS]
  refine wpS_cond (t := true) (by simp [Act.eval, Array.replicate]) ?_
  simp only [if_true]
  apply wpS_region
  simp [wpOpsS, go_sem, hc, hz, hc3, hz3, bodyPostS, results, Tryz.results52]

theorem idle_PickRange (p q : Addr) (w : World) : CallsD Tryz.prog 52 #[.pointer (some p), .pointer (some q)] .returning w fun e u' w' => e = .returned (.tuple #[]) ∧ u' = .returning ∧ w' = w := by
  refine callsD_of_wpS Tryz.func52 rfl fun c₀ cs hu => ?_
  apply wpS_seq
  apply wpS_region
  simp [wpOpsS, go_sem, recoverD, hu, Tryz.ntmps52, Exit.thenS]
  refine wpS_cond (t := false) (by simp [Act.eval, Array.replicate]) ?_
  simp only [Bool.false_eq_true, if_false]
  refine wpS_of_wp (wp_skip ?_)
  cases c₀
  simp_all [bodyPostS, results, Tryz.results52]

def rcheckT (s : List UInt8) : Int := if 1024 < s.length then 91 else match rulesT s with | none => 90 | some _ => 0

theorem Check_long (t : ByteArray) (w : World) (h : 1024 < t.size) : Calls Tryz.prog 16 #[.string t] w fun e w' => e = .returned (.int .i64 91) ∧ Below w.heap.size w w' := by
  have hmf : ∀ (fn : Fn) (first cap : Array Value) (w : World), (Instr.makeFunc fn first cap).run Tryz.prog w = .ok (.func fn first cap) w := fun _ _ _ _ => rfl
  have h' : 1024 < (t.size : Int) := by omega
  go_enter_defers Tryz.func16, Tryz.ntmps16
  go_wp2
  refine leaves_cons (f := 51) (args := #[.pointer (some ⟨w.heap.size, 0, none⟩)]) (by simp) (by simp [go_sem]) ?_
  refine (idle_Check ⟨w.heap.size, 0, none⟩ _).mono ?_
  rintro e u' w'' ⟨rfl, rfl, rfl⟩
  simp [Leaves, settle, results, Tryz.results16, go_sem]
  exact (Below.refl _ _).alloc (Nat.le_refl _) _

theorem Check_no (t : ByteArray) (w : World) (h : t.size ≤ 1024) (he : Evs w) (hr : rulesT (bys t) = none) : Calls Tryz.prog 16 #[.string t] w fun e w' => e = .returned (.int .i64 90) ∧ Below w.heap.size w w' := by
  have hmf : ∀ (fn : Fn) (first cap : Array Value) (w : World), (Instr.makeFunc fn first cap).run Tryz.prog w = .ok (.func fn first cap) w := fun _ _ _ _ => rfl
  have h' : ¬ 1024 < (t.size : Int) := by omega
  have HB : Hid (Below w.heap.size w (w.alloc (.cells #[.int .i64 0] 24))) := ((Below.refl _ _).alloc (Nat.le_refl _) _)
  have BB := hide (Blk.newAt w w.heap.size rfl #[.int .i64 0] 24)
  have RR := hide (readRules_any t (w.alloc (.cells #[.int .i64 0] 24)) h (he.below HB.out))
  rw [hr] at RR
  clear h he hr
  go_enter_defers Tryz.func16, Tryz.ntmps16
  go_wp2_with fail
  refine RR.out.mono ?_
  rintro e w1 ⟨hb, rfl⟩
  have BB1 := Blk.on BB hb
  have HB1 := hide (HB.out.trans (hb.mono HB.out.size))
  clear hb RR
  have c0 := BB1.out.cell 0
  have f0 := BB1.out.free 0
  go_wp2
  refine leaves_cons (f := 51) (args := #[.pointer (some ⟨w.heap.size, 0, none⟩)]) (by simp) (by simp [go_sem]) ?_
  refine (catch_Check ⟨w.heap.size, 0, none⟩ _ _ _ [] _ c0 f0).mono ?_
  rintro e u' w'' ⟨rfl, rfl, rfl⟩
  have hc9 := World.cell?_setCell_same' w1 ⟨w.heap.size, 0, none⟩ (.int .i64 90) (by rw [c0]; rfl)
  simp [Leaves, settle, results, Tryz.results16, go_sem, hc9]
  exact HB1.out.setCell (p := ⟨w.heap.size, 0, none⟩) (Nat.le_refl _) _

theorem Check_yes (t : ByteArray) (w : World) (h : t.size ≤ 1024) (he : Evs w) (hr : (rulesT (bys t)).isSome = true) : Calls Tryz.prog 16 #[.string t] w fun e w' => e = .returned (.int .i64 0) ∧ Below w.heap.size w w' := by
  have hmf : ∀ (fn : Fn) (first cap : Array Value) (w : World), (Instr.makeFunc fn first cap).run Tryz.prog w = .ok (.func fn first cap) w := fun _ _ _ _ => rfl
  have h' : ¬ 1024 < (t.size : Int) := by omega
  have HB : Hid (Below w.heap.size w (w.alloc (.cells #[.int .i64 0] 24))) := ((Below.refl _ _).alloc (Nat.le_refl _) _)
  have BB := hide (Blk.newAt w w.heap.size rfl #[.int .i64 0] 24)
  have RR := hide (readRules_any t (w.alloc (.cells #[.int .i64 0] 24)) h (he.below HB.out))
  obtain ⟨ys, hy⟩ := Option.isSome_iff_exists.1 hr
  rw [hy] at RR
  clear h he hr hy
  go_enter_defers Tryz.func16, Tryz.ntmps16
  go_wp2_with fail
  refine RR.out.mono ?_
  rintro e w1 ⟨hb, v, rfl, _⟩
  have BB1 := Blk.on BB hb
  have HB1 := hide (HB.out.trans (hb.mono HB.out.size))
  clear hb RR
  have c0 := BB1.out.cell 0
  have f0 := BB1.out.free 0
  simp only [List.getElem?_toArray, List.getElem?_cons_zero] at c0
  go_wp2
  refine leaves_cons (f := 51) (args := #[.pointer (some ⟨w.heap.size, 0, none⟩)]) (by simp) (by simp [go_sem]) ?_
  refine (idle_Check ⟨w.heap.size, 0, none⟩ _).mono ?_
  rintro e u' w'' ⟨rfl, rfl, rfl⟩
  have hc9 := World.cell?_setCell_same' w1 ⟨w.heap.size, 0, none⟩ (.int .i64 0) (by rw [c0]; rfl)
  simp [Leaves, settle, results, Tryz.results16, go_sem, hc9]
  exact HB1.out.setCell (p := ⟨w.heap.size, 0, none⟩) (Nat.le_refl _) _

theorem Check_any (t : ByteArray) (w : World) (he : Evs w) : Calls Tryz.prog 16 #[.string t] w fun e w' => e = .returned (.int .i64 (rcheckT (bys t))) ∧ Below w.heap.size w w' := by
  unfold rcheckT
  rw [bys_len]
  by_cases h : 1024 < t.size
  · rw [if_pos h]; exact Check_long t w h
  · rw [if_neg h]
    cases hr : rulesT (bys t) with
    | none => exact Check_no t w (by omega) he hr
    | some ys => exact Check_yes t w (by omega) he (by rw [hr]; rfl)

end Go.Proofs.YtkbciljfjijclaaGreatDoor

namespace Go.Proofs.YtkbciljfjijclaaGreatDoor
open Go.RowKit

def leftT (d n : Nat) : Nat := if d = 0 then min n 1000000000 else n % d
def valOf (d : Nat) (s : List UInt8) : Nat := s.foldl (fun n c => leftT d (10 * n + (c.toNat - 48))) 0
def valT (c : UInt8) (d : Nat) (x : OperT) : Nat :=
  if c.toNat = 118 then leftT d x.v.toNat else if c.toNat = 119 then leftT d x.w.toNat else if c.toNat = 99 ∨ c.toNat = 101 then leftT d x.e.toNat
  else if c.toNat = 102 then valOf d x.f else if c.toNat = 116 then valOf d x.t else valOf d x.i

theorem leftT_le {d n : Nat} (hd : d < 1000000000) : leftT d n ≤ 1000000000 := by
  unfold leftT
  split
  · omega
  · rename_i h
    have := Nat.mod_lt n (show 0 < d by omega)
    omega

theorem valOf_snoc (d : Nat) (s : List UInt8) (k : Nat) (c : UInt8) (h : s[k]? = some c) : valOf d (s.take (k + 1)) = leftT d (10 * valOf d (s.take k) + (c.toNat - 48)) := by
  unfold valOf
  rw [List.take_add_one, h, Option.toList_some, List.foldl_append]
  rfl

theorem valOf_le {d : Nat} (hd : d < 1000000000) (s : List UInt8) (k : Nat) : valOf d (s.take k) ≤ 1000000000 := by
  induction k with
  | zero => simp [valOf]
  | succ k ih =>
    cases h : s[k]? with
    | none => rw [List.take_add_one, h]; simpa using ih
    | some c => rw [valOf_snoc d s k c h]; exact leftT_le hd

theorem next_at {P : Program} (W : World) (B : Nat) (s : ByteArray) (pos : Nat) (ty : TypeId) (hB : W.heap[B]? = some (.stringIter s pos)) (h : pos < s.size) (ha : (s[pos]'h).toNat < 128) :
    (Instr.next (.pointer (some ⟨B, 0, none⟩)) true ty).run P W = .ok (.tuple #[.bool true, .int .i64 pos, .int .i32 (s[pos]'h).toNat]) (W.putObj B (.stringIter s (pos + 1))) := by
  simp only [Instr.next, getObj, setObj, Sem.run_bind, Sem.run, hB, Result.andThen, h, if_true, decode_ascii s pos h ha]
  simp [goInt, World.putObj]

theorem next_at_end {P : Program} (W : World) (B : Nat) (s : ByteArray) (pos : Nat) (ty : TypeId) (hB : W.heap[B]? = some (.stringIter s pos)) (h : ¬ pos < s.size) :
    (Instr.next (.pointer (some ⟨B, 0, none⟩)) true ty).run P W = .ok (.tuple #[.bool false]) W := by
  simp [Instr.next, getObj, Sem.run, hB, h]

set_option maxHeartbeats 1000000 in
theorem left_any (c : UInt8) (d n : Nat) (w : World) (hd : d < 1000000000) (hn : n ≤ 100000000000) : Calls Tryz.prog 301 #[.agg #[.int .u8 (c.toNat : Int), .int .i64 (d : Int)], .int .i64 (n : Int)] w fun e w' => e = .returned (.int .i64 (leftT d n : Int)) ∧ Below w.heap.size w w' := by
  have HB : Hid (Below w.heap.size w (w.alloc (.cells #[.int .u8 (c.toNat : Int), .int .i64 (d : Int)] 226))) := (Below.refl _ _).alloc (Nat.le_refl _) _
  by_cases h0 : d = 0
  · subst h0
    have hm := min_run n 1000000000 (leftT 0 n) (by unfold leftT; rw [if_pos rfl])
    rw [show ((1000000000 : Nat) : Int) = 1000000000 from rfl] at hm
    generalize leftT 0 n = r at *
    generalize c.toNat = cc at *
    go_enter Tryz.func301, Tryz.ntmps301
    go_wp2
    go_ret
    exact ⟨rfl, HB.out⟩
  · have h0' : ((d : Int) == 0) = false := beq_eq_false_iff_ne.2 (by omega)
    have h0'' : ¬ (d : Int) = 0 := by omega
    have hr : leftT d n = n % d := if_neg h0
    have hlt := Nat.mod_lt n (show 0 < d by omega)
    rw [hr]
    have hmod : (n : Int).tmod (d : Int) = ((n % d : Nat) : Int) := by rw [Int.tmod_eq_emod_of_nonneg (by omega)]; exact (Int.natCast_emod n d).symm
    generalize c.toNat = cc at *
    clear hr h0
    go_enter Tryz.func301, Tryz.ntmps301
    go_wp2
    go_ret
    exact ⟨rfl, HB.out⟩

theorem blk_putObj {W : World} {b l : Nat} {cs : Array Value} {t : TypeId} (h : Blk W b cs t) (o : Obj) (hne : b ≠ l) : Blk (W.putObj l o) b cs t := (World.putObj_heap_other hne).trans h

set_option maxHeartbeats 1000000 in
theorem valueOf_any (c : UInt8) (d : Nat) (s : ByteArray) (w : World) (hd : d < 1000000000) (hD : DigB (bys s)) :
    Calls Tryz.prog 302 #[.agg #[.int .u8 (c.toNat : Int), .int .i64 (d : Int)], .string s] w fun e w' => e = .returned (.int .i64 (valOf d (bys s) : Int)) ∧ Below w.heap.size w w' := by
  have BE := hide (Blk.alloc (Blk.newAt w w.heap.size rfl #[.int .u8 (c.toNat : Int), .int .i64 (d : Int)] 226) (.stringIter s 0))
  have HB0 : Hid (Below w.heap.size w ((w.alloc (.cells #[.int .u8 (c.toNat : Int), .int .i64 (d : Int)] 226)).alloc (.stringIter s 0))) := ((Below.refl _ _).alloc (Nat.le_refl _) _).alloc (by simp) _
  have HI0 : Hid (((w.alloc (.cells #[.int .u8 (c.toNat : Int), .int .i64 (d : Int)] 226)).alloc (.stringIter s 0)).heap[w.heap.size + 1]? = some (.stringIter s 0)) := by
    have := World.alloc_heap_new (w.alloc (.cells #[.int .u8 (c.toNat : Int), .int .i64 (d : Int)] 226)) (.stringIter s 0)
    rw [World.size_alloc] at this
    exact this
  have HDD : Hid (∀ k, k < s.size → (48 ≤ byt (bys s) k ∧ byt (bys s) k ≤ 57) ∧ (∀ h : k < s.size, s[k].toNat = byt (bys s) k) ∧ ∃ u : UInt8, (bys s)[k]? = some u ∧ u.toNat = byt (bys s) k) := fun k hk => ⟨hD k (by rw [bys_len]; omega), fun h => byt_get s k h, by
    have hk' : k < (bys s).length := by rw [bys_len]; exact hk
    exact ⟨(bys s)[k], List.getElem?_eq_getElem hk', by simp [byt, hk']⟩⟩
  have HL := hide (fun n (hn : n ≤ 100000000000) X => left_any c d n X hd hn)
  have HV := hide (fun k => valOf_le hd (bys s) k)
  have HLE := hide (fun n => leftT_le (n := n) hd)
  generalize c.toNat = cc at *
  clear hD
  go_enter Tryz.func302, Tryz.ntmps302
  go_wp2
  go_loopw [5] (fun q wr => ∃ k : Nat, k ≤ s.size ∧ q = .int .i64 (valOf d ((bys s).take k) : Int) ∧ Hid (wr.heap[w.heap.size + 1]? = some (.stringIter s k)) ∧ Hid (Blk wr w.heap.size #[.int .u8 (cc : Int), .int .i64 (d : Int)] 226) ∧ Hid (Below w.heap.size w wr)) (fun _ wr => s.size - wr.iterPos (w.heap.size + 1))
  case atStart => exact ⟨0, Nat.zero_le _, rfl, HI0, BE, HB0⟩
  case round =>
    obtain ⟨k, hk, rfl, HI, HE, HB⟩ := hrel
    by_cases hlt : k < s.size
    · obtain ⟨hb, hg, u, hu1, hu2⟩ := HDD.out k hlt
      have hvs := valOf_snoc d (bys s) k u hu1
      have hv9 := HV.out k
      rw [hu2] at hvs
      obtain ⟨b, hbb⟩ : ∃ b, b = byt (bys s) k := ⟨_, rfl⟩
      rw [← hbb] at hg hb hvs
      have hnx : ∀ ty, (Instr.next (.pointer (some ⟨w.heap.size + 1, 0, none⟩)) true ty).run Tryz.prog wr = .ok (.tuple #[.bool true, .int .i64 (k : Int), .int .i32 ((b : Nat) : Int)]) (wr.putObj (w.heap.size + 1) (.stringIter s (k + 1))) := fun ty => by
        have h := next_at (P := Tryz.prog) wr (w.heap.size + 1) s k ty HI.out hlt (by rw [hg hlt]; omega)
        rw [hg hlt] at h
        exact h
      obtain ⟨V, hV⟩ : ∃ V, V = valOf d ((bys s).take k) := ⟨_, rfl⟩
      rw [← hV] at hvs hv9
      have LC := hide (fun X => HL.out (10 * V + (b - 48)) (by omega) X)
      rw [← hvs, show ((10 * V + (b - 48) : Nat) : Int) = 10 * (V : Int) + ((b : Int) - 48) from by omega] at LC
      have HV2 := HV.out (k + 1)
      obtain ⟨V2, hV2⟩ : ∃ V2, V2 = valOf d ((bys s).take (k + 1)) := ⟨_, rfl⟩
      rw [← hV2] at LC
      have HVV := hide hV2
      rw [← hV]
      have hlI : w.heap.size + 1 < wr.heap.size := lt_of_block HI.out
      have BE1 := hide (blk_putObj HE.out (.stringIter s (k + 1)) (by omega : w.heap.size ≠ w.heap.size + 1))
      have HI1 : Hid ((wr.putObj (w.heap.size + 1) (.stringIter s (k + 1))).heap[w.heap.size + 1]? = some (.stringIter s (k + 1))) := World.putObj_heap_same hlI
      have HB1 : Hid (Below w.heap.size w (wr.putObj (w.heap.size + 1) (.stringIter s (k + 1)))) := HB.out.trans (Below.grown (Below.refl _ wr) (grownBy_putObj' wr (w.heap.size + 1) _) (by omega) (fun k e => by cases e; omega))
      obtain ⟨Wp, hWp⟩ : ∃ Wp, Wp = wr.putObj (w.heap.size + 1) (.stringIter s (k + 1)) := ⟨_, rfl⟩
      have hip : wr.iterPos (w.heap.size + 1) = k := by unfold World.iterPos; rw [HI.out]
      have HIP := hide hip
      rw [← hWp] at BE1 HI1 HB1 hnx
      obtain ⟨c0, c1⟩ := BE1.out.two
      clear hbb hu1 hu2 hvs hg hV hV2 hWp HI HE HB HDD hip HV2
      go_wp2_with fail
      refine (LC.out _).mono ?_
      rintro e w2 ⟨rfl, hb2⟩
      have HI2 : Hid (w2.heap[w.heap.size + 1]? = some (.stringIter s (k + 1))) := (hb2.block _ (lt_of_block HI1.out)).trans HI1.out
      have BE2 := Blk.on BE1 hb2
      have HB2 := hide (HB1.out.trans (hb2.mono HB1.out.size))
      have hip2 : w2.iterPos (w.heap.size + 1) = k + 1 := by unfold World.iterPos; rw [HI2.out]
      clear hb2
      go_wp2
      refine ⟨⟨k + 1, by omega, by rw [HVV.out], HI2, BE2, HB2⟩, ?_⟩
      rw [hip2, HIP.out]
      omega
    · obtain rfl : k = s.size := by omega
      have hnx : ∀ ty, (Instr.next (.pointer (some ⟨w.heap.size + 1, 0, none⟩)) true ty).run Tryz.prog wr = .ok (.tuple #[.bool false]) wr := fun ty => next_at_end wr _ s _ ty HI.out hlt
      have HT : Hid (valOf d ((bys s).take s.size) = valOf d (bys s)) := by show _ = _; rw [← bys_len, List.take_length]
      rw [HT.out]
      clear HDD HI HT
      go_wp2
      go_ret
      exact ⟨rfl, HB.out⟩

end Go.Proofs.YtkbciljfjijclaaGreatDoor

namespace Go.Proofs.YtkbciljfjijclaaGreatDoor
open Go.RowKit

theorem digB_num {l : List UInt8} {m : Int} (h : NumT l m) : DigB l := by
  rcases h with rfl | ⟨_, _, _, h⟩
  · intro k hk
    simp at hk
    subst hk
    exact ⟨by decide, by decide⟩
  · exact h

set_option maxHeartbeats 1000000 in
theorem value_v (d : Nat) (i : ByteArray) (v z : Int) (f t : ByteArray) (e : Int) (w : World) (hd : d < 1000000000) (n : Nat) (hn : v = (n : Int)) (hl : n ≤ 8192) :
    Calls Tryz.prog 282 #[.agg #[.int .u8 118, .int .i64 (d : Int)], opV i v z f t e] w fun e w' => e = .returned (.int .i64 (leftT d n : Int)) ∧ Below w.heap.size w w' := by
  subst hn
  have LC := hide (fun X => left_any 118 d n X hd (by omega))
  rw [show (((118 : UInt8).toNat : Nat) : Int) = 118 from rfl] at LC
  generalize leftT d n = r at *
  generalize hE : (n : Nat) = nE at *
  clear hE
  have HB : Hid (Below w.heap.size w ((w.alloc (.cells #[.int .u8 118, .int .i64 (d : Int)] 226)).alloc (.cells #[.string i, .int .i64 (nE : Int), .int .i64 z, .string f, .string t, .int .i64 e] 37))) := ((Below.refl _ _).alloc (Nat.le_refl _) _).alloc (by simp) _
  go_enter Tryz.func282, Tryz.ntmps282
  go_wp2_with fail
  refine (LC.out _).mono ?_
  rintro e w1 ⟨rfl, hb⟩
  have HB1 := hide (HB.out.trans (hb.mono HB.out.size))
  clear hb LC HB
  go_wp2
  go_ret
  exact ⟨rfl, HB1.out⟩

set_option maxHeartbeats 1000000 in
theorem value_w (d : Nat) (i : ByteArray) (v z : Int) (f t : ByteArray) (e : Int) (w : World) (hd : d < 1000000000) (n : Nat) (hn : z = (n : Int)) (hl : n ≤ 8192) :
    Calls Tryz.prog 282 #[.agg #[.int .u8 119, .int .i64 (d : Int)], opV i v z f t e] w fun e w' => e = .returned (.int .i64 (leftT d n : Int)) ∧ Below w.heap.size w w' := by
  subst hn
  have LC := hide (fun X => left_any 119 d n X hd (by omega))
  rw [show (((119 : UInt8).toNat : Nat) : Int) = 119 from rfl] at LC
  generalize leftT d n = r at *
  generalize hE : (n : Nat) = nE at *
  clear hE
  have HB : Hid (Below w.heap.size w ((w.alloc (.cells #[.int .u8 119, .int .i64 (d : Int)] 226)).alloc (.cells #[.string i, .int .i64 v, .int .i64 (nE : Int), .string f, .string t, .int .i64 e] 37))) := ((Below.refl _ _).alloc (Nat.le_refl _) _).alloc (by simp) _
  go_enter Tryz.func282, Tryz.ntmps282
  go_wp2_with fail
  refine (LC.out _).mono ?_
  rintro e w1 ⟨rfl, hb⟩
  have HB1 := hide (HB.out.trans (hb.mono HB.out.size))
  clear hb LC HB
  go_wp2
  go_ret
  exact ⟨rfl, HB1.out⟩

set_option maxHeartbeats 1000000 in
theorem value_c (d : Nat) (i : ByteArray) (v z : Int) (f t : ByteArray) (e : Int) (w : World) (hd : d < 1000000000) (n : Nat) (hn : e = (n : Int)) (hl : n ≤ 8192) :
    Calls Tryz.prog 282 #[.agg #[.int .u8 99, .int .i64 (d : Int)], opV i v z f t e] w fun e w' => e = .returned (.int .i64 (leftT d n : Int)) ∧ Below w.heap.size w w' := by
  subst hn
  have LC := hide (fun X => left_any 99 d n X hd (by omega))
  rw [show (((99 : UInt8).toNat : Nat) : Int) = 99 from rfl] at LC
  generalize leftT d n = r at *
  generalize hE : (n : Nat) = nE at *
  clear hE
  have HB : Hid (Below w.heap.size w ((w.alloc (.cells #[.int .u8 99, .int .i64 (d : Int)] 226)).alloc (.cells #[.string i, .int .i64 v, .int .i64 z, .string f, .string t, .int .i64 (nE : Int)] 37))) := ((Below.refl _ _).alloc (Nat.le_refl _) _).alloc (by simp) _
  go_enter Tryz.func282, Tryz.ntmps282
  go_wp2_with fail
  refine (LC.out _).mono ?_
  rintro e w1 ⟨rfl, hb⟩
  have HB1 := hide (HB.out.trans (hb.mono HB.out.size))
  clear hb LC HB
  go_wp2
  go_ret
  exact ⟨rfl, HB1.out⟩

set_option maxHeartbeats 1000000 in
theorem value_e (d : Nat) (i : ByteArray) (v z : Int) (f t : ByteArray) (e : Int) (w : World) (hd : d < 1000000000) (n : Nat) (hn : e = (n : Int)) (hl : n ≤ 8192) :
    Calls Tryz.prog 282 #[.agg #[.int .u8 101, .int .i64 (d : Int)], opV i v z f t e] w fun e w' => e = .returned (.int .i64 (leftT d n : Int)) ∧ Below w.heap.size w w' := by
  subst hn
  have LC := hide (fun X => left_any 101 d n X hd (by omega))
  rw [show (((101 : UInt8).toNat : Nat) : Int) = 101 from rfl] at LC
  generalize leftT d n = r at *
  generalize hE : (n : Nat) = nE at *
  clear hE
  have HB : Hid (Below w.heap.size w ((w.alloc (.cells #[.int .u8 101, .int .i64 (d : Int)] 226)).alloc (.cells #[.string i, .int .i64 v, .int .i64 z, .string f, .string t, .int .i64 (nE : Int)] 37))) := ((Below.refl _ _).alloc (Nat.le_refl _) _).alloc (by simp) _
  go_enter Tryz.func282, Tryz.ntmps282
  go_wp2_with fail
  refine (LC.out _).mono ?_
  rintro e w1 ⟨rfl, hb⟩
  have HB1 := hide (HB.out.trans (hb.mono HB.out.size))
  clear hb LC HB
  go_wp2
  go_ret
  exact ⟨rfl, HB1.out⟩

set_option maxHeartbeats 1000000 in
theorem value_f (d : Nat) (i : ByteArray) (v z : Int) (f t : ByteArray) (e : Int) (w : World) (hd : d < 1000000000) (hD : DigB (bys f)) :
    Calls Tryz.prog 282 #[.agg #[.int .u8 102, .int .i64 (d : Int)], opV i v z f t e] w fun e w' => e = .returned (.int .i64 (valOf d (bys f) : Int)) ∧ Below w.heap.size w w' := by
  have LC := hide (fun X => valueOf_any 102 d f X hd hD)
  rw [show (((102 : UInt8).toNat : Nat) : Int) = 102 from rfl] at LC
  generalize valOf d (bys f) = r at *
  generalize hE : (0 : Nat) = nE at *
  clear hE
  have HB : Hid (Below w.heap.size w ((w.alloc (.cells #[.int .u8 102, .int .i64 (d : Int)] 226)).alloc (.cells #[.string i, .int .i64 v, .int .i64 z, .string f, .string t, .int .i64 e] 37))) := ((Below.refl _ _).alloc (Nat.le_refl _) _).alloc (by simp) _
  go_enter Tryz.func282, Tryz.ntmps282
  go_wp2_with fail
  refine (LC.out _).mono ?_
  rintro e w1 ⟨rfl, hb⟩
  have HB1 := hide (HB.out.trans (hb.mono HB.out.size))
  clear hb LC HB
  go_wp2
  go_ret
  exact ⟨rfl, HB1.out⟩

set_option maxHeartbeats 1000000 in
theorem value_t (d : Nat) (i : ByteArray) (v z : Int) (f t : ByteArray) (e : Int) (w : World) (hd : d < 1000000000) (hD : DigB (bys t)) :
    Calls Tryz.prog 282 #[.agg #[.int .u8 116, .int .i64 (d : Int)], opV i v z f t e] w fun e w' => e = .returned (.int .i64 (valOf d (bys t) : Int)) ∧ Below w.heap.size w w' := by
  have LC := hide (fun X => valueOf_any 116 d t X hd hD)
  rw [show (((116 : UInt8).toNat : Nat) : Int) = 116 from rfl] at LC
  generalize valOf d (bys t) = r at *
  generalize hE : (0 : Nat) = nE at *
  clear hE
  have HB : Hid (Below w.heap.size w ((w.alloc (.cells #[.int .u8 116, .int .i64 (d : Int)] 226)).alloc (.cells #[.string i, .int .i64 v, .int .i64 z, .string f, .string t, .int .i64 e] 37))) := ((Below.refl _ _).alloc (Nat.le_refl _) _).alloc (by simp) _
  go_enter Tryz.func282, Tryz.ntmps282
  go_wp2_with fail
  refine (LC.out _).mono ?_
  rintro e w1 ⟨rfl, hb⟩
  have HB1 := hide (HB.out.trans (hb.mono HB.out.size))
  clear hb LC HB
  go_wp2
  go_ret
  exact ⟨rfl, HB1.out⟩

set_option maxHeartbeats 1000000 in
theorem value_i (d : Nat) (i : ByteArray) (v z : Int) (f t : ByteArray) (e : Int) (w : World) (hd : d < 1000000000) (hD : DigB (bys i)) :
    Calls Tryz.prog 282 #[.agg #[.int .u8 105, .int .i64 (d : Int)], opV i v z f t e] w fun e w' => e = .returned (.int .i64 (valOf d (bys i) : Int)) ∧ Below w.heap.size w w' := by
  have LC := hide (fun X => valueOf_any 105 d i X hd hD)
  rw [show (((105 : UInt8).toNat : Nat) : Int) = 105 from rfl] at LC
  generalize valOf d (bys i) = r at *
  generalize hE : (0 : Nat) = nE at *
  clear hE
  have HB : Hid (Below w.heap.size w ((w.alloc (.cells #[.int .u8 105, .int .i64 (d : Int)] 226)).alloc (.cells #[.string i, .int .i64 v, .int .i64 z, .string f, .string t, .int .i64 e] 37))) := ((Below.refl _ _).alloc (Nat.le_refl _) _).alloc (by simp) _
  go_enter Tryz.func282, Tryz.ntmps282
  go_wp2_with fail
  refine (LC.out _).mono ?_
  rintro e w1 ⟨rfl, hb⟩
  have HB1 := hide (HB.out.trans (hb.mono HB.out.size))
  clear hb LC HB
  go_wp2
  go_ret
  exact ⟨rfl, HB1.out⟩

set_option maxHeartbeats 1000000 in
theorem value_n (d : Nat) (i : ByteArray) (v z : Int) (f t : ByteArray) (e : Int) (w : World) (hd : d < 1000000000) (hD : DigB (bys i)) :
    Calls Tryz.prog 282 #[.agg #[.int .u8 110, .int .i64 (d : Int)], opV i v z f t e] w fun e w' => e = .returned (.int .i64 (valOf d (bys i) : Int)) ∧ Below w.heap.size w w' := by
  have LC := hide (fun X => valueOf_any 110 d i X hd hD)
  rw [show (((110 : UInt8).toNat : Nat) : Int) = 110 from rfl] at LC
  generalize valOf d (bys i) = r at *
  generalize hE : (0 : Nat) = nE at *
  clear hE
  have HB : Hid (Below w.heap.size w ((w.alloc (.cells #[.int .u8 110, .int .i64 (d : Int)] 226)).alloc (.cells #[.string i, .int .i64 v, .int .i64 z, .string f, .string t, .int .i64 e] 37))) := ((Below.refl _ _).alloc (Nat.le_refl _) _).alloc (by simp) _
  go_enter Tryz.func282, Tryz.ntmps282
  go_wp2_with fail
  refine (LC.out _).mono ?_
  rintro e w1 ⟨rfl, hb⟩
  have HB1 := hide (HB.out.trans (hb.mono HB.out.size))
  clear hb LC HB
  go_wp2
  go_ret
  exact ⟨rfl, HB1.out⟩

theorem value_any (c : UInt8) (d : Nat) (i : ByteArray) (v z : Int) (f t : ByteArray) (e : Int) (w : World) (hd : d < 1000000000) (hc : c ∈ opsT) (hm : MayO ⟨bys i, v, z, bys f, bys t, e⟩) :
    Calls Tryz.prog 282 #[.agg #[.int .u8 (c.toNat : Int), .int .i64 (d : Int)], opV i v z f t e] w fun e' w' => e' = .returned (.int .i64 (valT c d ⟨bys i, v, z, bys f, bys t, e⟩ : Int)) ∧ Below w.heap.size w w' := by
  obtain ⟨⟨h1, h2⟩, ⟨h3, h4⟩, ⟨h5, h6⟩, h7, h8, h9, _⟩ := hm
  simp only at h1 h2 h3 h4 h5 h6 h7 h8 h9
  simp only [opsT, List.mem_cons, List.not_mem_nil, or_false] at hc
  rcases hc with rfl | rfl | rfl | rfl | rfl | rfl | rfl | rfl
  · exact value_n d i v z f t e w hd (digB_num h7)
  · exact value_i d i v z f t e w hd (digB_num h7)
  · exact value_v d i v z f t e w hd v.toNat (by omega) (by omega)
  · exact value_w d i v z f t e w hd z.toNat (by omega) (by omega)
  · exact value_f d i v z f t e w hd (digB_num h8)
  · exact value_t d i v z f t e w hd (digB_num h9)
  · exact value_c d i v z f t e w hd e.toNat (by omega) (by omega)
  · exact value_e d i v z f t e w hd e.toNat (by omega) (by omega)

end Go.Proofs.YtkbciljfjijclaaGreatDoor

namespace Go.Proofs.YtkbciljfjijclaaGreatDoor
open Go.RowKit

def foundT (r : RelT) (x : OperT) : Bool := if r.op.toNat = 110 ∧ x.t ≠ [48] then false else r.rs.any fun b => decide (b.1 ≤ valT r.op r.div x) && decide (valT r.op r.div x ≤ b.2)
def relH (x : OperT) (r : RelT) : Bool := foundT r x != r.neq
def allH (x : OperT) (l : List RelT) : Bool := l.all (relH x)
def condH (x : OperT) (l : List (List RelT)) : Bool := l.any (allH x)
def firstH (x : OperT) : List (Nat × List (List RelT)) → Nat
  | [] => 5
  | y :: ys => if condH x y.2 then y.1 else firstH x ys

theorem flat_get {α : Type} (size : Nat) : ∀ (css : List (List α)) (k j : Nat) (c : List α), (∀ d, d ∈ css → d.length = size) → css[k]? = some c → j < size → css.flatten[k * size + j]? = c[j]?
  | [], k, j, c, _, h, _ => by simp at h
  | d :: css, 0, j, c, hl, h, hj => by
    simp only [List.getElem?_cons_zero, Option.some.injEq] at h
    subst h
    rw [List.flatten_cons, Nat.zero_mul, Nat.zero_add, List.getElem?_append_left (by rw [hl d (by simp)]; exact hj)]
  | d :: css, k + 1, j, c, hl, h, hj => by
    have hd := hl d (by simp)
    rw [List.flatten_cons, List.getElem?_append_right (by rw [hd, Nat.succ_mul]; omega), hd, show (k + 1) * size + j - size = k * size + j by rw [Nat.succ_mul]; omega]
    exact flat_get size css k j c (fun d hd => hl d (by simp [hd])) (by simpa using h) hj

theorem Lst.at {α : Type} {base : Nat} {e : TypeId} {size : Nat} {El : α → List Value → World → Prop} {xs : List α} {ao : Option Addr} {n cap : Nat} {W : World} (h : Lst base e size El xs (.slice ao n cap) W) :
    n = xs.length ∧ n ≤ maxLen ∧ ∀ k x, xs[k]? = some x → ∃ g c, ao = some ⟨g, 0, none⟩ ∧ g < W.heap.size ∧ c.length = size ∧ El x c W ∧ ∀ j u, c[j]? = some u → W.cell? ⟨g, k * size + j, none⟩ = some u := by
  obtain ⟨css, h1, h2, h3⟩ := h
  have hn : n = xs.length ∧ n ≤ maxLen := by
    rcases h2.2 with ⟨h, h0⟩ | ⟨g, cap', cur, h, _, _, h5, h6, _⟩
    · simp only [Value.slice.injEq] at h; omega
    · simp only [Value.slice.injEq] at h; omega
  refine ⟨hn.1, hn.2, fun k x hx => ?_⟩
  have hk : k < xs.length := by
    rcases Nat.lt_or_ge k xs.length with q | q
    · exact q
    · rw [List.getElem?_eq_none q] at hx; cases hx
  obtain ⟨c, hc⟩ : ∃ c, css[k]? = some c := ⟨_, List.getElem?_eq_getElem (by omega)⟩
  obtain ⟨hcl, hel⟩ := h3 k x c hx hc
  rcases h2.2 with ⟨h, h0⟩ | ⟨g, cap', cur, h, _, hg, hcap, _, hsz, htk⟩
  · omega
  · simp only [Value.slice.injEq] at h
    refine ⟨g, c, h.1, lt_of_block hg, hcl, hel, fun j u hu => ?_⟩
    have hj : j < size := by
      rcases Nat.lt_or_ge j size with q | q
      · exact q
      · rw [List.getElem?_eq_none (by omega)] at hu; cases hu
    have hall : ∀ d, d ∈ css → d.length = size := fun d hd => by
      obtain ⟨i, hi⟩ := List.getElem?_of_mem hd
      have hil : i < xs.length := by
        rcases Nat.lt_or_ge i css.length with q | q
        · omega
        · rw [List.getElem?_eq_none q] at hi; cases hi
      exact (h3 i _ d (List.getElem?_eq_getElem hil) hi).1
    have e1 := flat_get size css k j c hall hc hj
    have hlt : k * size + j < xs.length * size := by
      have : (k + 1) * size ≤ xs.length * size := Nat.mul_le_mul_right _ hk
      rw [Nat.succ_mul] at this
      omega
    have e2 : cur[k * size + j]? = some u := by
      rw [← Array.getElem?_toList, ← List.getElem?_take_of_lt hlt, htk, e1, hu]
    simp only [World.cell?, hg, Option.isSome_none, Bool.false_eq_true, if_false, e2]

theorem any_at {α : Type} (p : α → Bool) (l : List α) (k : Nat) (x : α) (h : l[k]? = some x) (hp : p x = true) : l.any p = true := List.any_eq_true.2 ⟨x, List.mem_of_getElem? h, hp⟩
theorem any_no {α : Type} (p : α → Bool) (l : List α) (h : ∀ (j : Nat) u, l[j]? = some u → p u = false) : l.any p = false := by
  rw [List.any_eq_false]
  intro x hx
  obtain ⟨i, hi⟩ := List.getElem?_of_mem hx
  rw [h i x hi]; simp

set_option maxHeartbeats 1000000 in
theorem found_frac (d : Int) (q : Bool) (ao : Option Addr) (n cap : Nat) (i : ByteArray) (v z : Int) (f t : ByteArray) (e : Int) (w : World) (ht : bys t ≠ [48]) :
    Calls Tryz.prog 253 #[.agg #[.int .u8 110, .int .i64 d, .bool q, .slice ao n cap], opV i v z f t e] w fun e w' => e = .returned (.bool false) ∧ Below w.heap.size w w' := by
  have hq := ne_nought ht
  have HB : Hid (Below w.heap.size w ((w.alloc (.cells #[.int .u8 110, .int .i64 d, .bool q, .slice ao n cap] 229)).alloc (.cells #[.string i, .int .i64 v, .int .i64 z, .string f, .string t, .int .i64 e] 37))) := ((Below.refl _ _).alloc (Nat.le_refl _) _).alloc (by simp) _
  clear ht
  go_enter Tryz.func253, Tryz.ntmps253
  go_wp2
  go_ret
  exact ⟨rfl, HB.out⟩

set_option maxRecDepth 100000 in
set_option maxHeartbeats 2000000 in
theorem found_n  (d : Int) (q : Bool) (ao : Option Addr) (n cap V : Nat) (rs : List (Nat × Nat)) (i : ByteArray) (v z : Int) (f : ByteArray) (e : Int) (w : World) (base : Nat)
     (hval : ∀ X, Calls Tryz.prog 282 #[.agg #[.int .u8 110, .int .i64 d], opV i v z f ⟨#[48]⟩ e] X fun e' w' => e' = .returned (.int .i64 (V : Int)) ∧ Below X.heap.size X w')
    (hls : Lst base 303 2 ElRange rs (.slice ao n cap) w) :
    Calls Tryz.prog 253 #[.agg #[.int .u8 110, .int .i64 d, .bool q, .slice ao n cap], opV i v z f ⟨#[48]⟩ e] w fun e w' => e = .returned (.bool (rs.any fun b => decide (b.1 ≤ V) && decide (V ≤ b.2))) ∧ Below w.heap.size w w' := by
  obtain ⟨hn, hnm, hat⟩ := hls.at
  have hnm2 : maxLen ≤ 9223372036854775807 := by decide
  have HAT := hide hat
  have HN := hide hn
  have HV := hide hval
  obtain ⟨ANS, hANS⟩ : ∃ b, b = rs.any fun b => decide (b.1 ≤ V) && decide (V ≤ b.2) := ⟨_, rfl⟩
  rw [← hANS]
  have HANS := hide hANS
  have HB : Hid (Below w.heap.size w ((w.alloc (.cells #[.int .u8 110, .int .i64 d, .bool q, .slice ao n cap] 229)).alloc (.cells #[.string i, .int .i64 v, .int .i64 z, .string f, .string ⟨#[48]⟩, .int .i64 e] 37))) := ((Below.refl _ _).alloc (Nat.le_refl _) _).alloc (by simp) _
  have BR := hide (Blk.alloc (Blk.newAt w w.heap.size rfl #[.int .u8 110, .int .i64 d, .bool q, .slice ao n cap] 229) (.cells #[.string i, .int .i64 v, .int .i64 z, .string f, .string ⟨#[48]⟩, .int .i64 e] 37))
  have hnb : n ≤ 9223372036854775807 := by omega
  clear hls hn hnm hat hval hANS hnm2
  go_enter Tryz.func253, Tryz.ntmps253
  go_wp2_with fail
  refine (HV.out _).mono ?_
  rintro e w1 ⟨rfl, hb⟩
  have BR1 := Blk.on BR hb
  have HB1 := hide (HB.out.trans (hb.mono HB.out.size))
  clear hb HV BR HB
  obtain ⟨c0, c1, c2, c3⟩ := BR1.out.four
  go_wp2
  go_loopw [24] (fun p wr => ∃ k : Nat, k ≤ n ∧ p = .int .i64 (k : Int) ∧ Hid (∀ (j : Nat) u, j < k → rs[j]? = some u → (decide (u.1 ≤ V) && decide (V ≤ u.2)) = false) ∧ Hid (Below w.heap.size w wr)) (fun p _ => n - (intOf p).toNat)
  case atStart => exact ⟨0, Nat.zero_le _, rfl, fun j u h _ => by omega, HB1⟩
  case round =>
    obtain ⟨k, hk, rfl, HNO, HBW⟩ := hrel
    by_cases hlt : k < n
    · have hlt' : (k : Int) < (n : Int) := by omega
      obtain ⟨x, hx⟩ : ∃ x, rs[k]? = some x := ⟨_, List.getElem?_eq_getElem (by have := HN.out; omega)⟩
      obtain ⟨g, c, rfl, hg, hcl, hel, hcell⟩ := HAT.out k x hx
      obtain rfl : c = _ := hel
      have d0 := (HBW.out.cell (p := ⟨g, k * 2 + 0, none⟩) hg).trans (hcell 0 _ rfl)
      have d1 := (HBW.out.cell (p := ⟨g, k * 2 + 1, none⟩) hg).trans (hcell 1 _ rfl)
      rw [Nat.add_zero] at d0
      obtain ⟨x1, x2⟩ := x
      dsimp only at d0 d1
      have HX := hide hx
      have HB2 : Hid (Below w.heap.size w (wr.alloc (.cells #[.int .i64 (x1 : Int), .int .i64 (x2 : Int)] 303))) := HBW.out.alloc HBW.out.size _
      have hwb : k * 2 < 9223372036854775807 * 2 := by omega
      clear hx hcell hcl hg HAT c0 c1 c2 c3
      by_cases h1 : x1 ≤ V
      · have h1' : (x1 : Int) ≤ (V : Int) := by omega
        have h1d : decide ((x1 : Int) ≤ (V : Int)) = true := decide_eq_true h1'
        by_cases h2 : V ≤ x2
        · have h2' : (V : Int) ≤ (x2 : Int) := by omega
          have h2d : decide ((V : Int) ≤ (x2 : Int)) = true := decide_eq_true h2'
          have HYES : Hid (ANS = true) := by
            show ANS = true
            rw [HANS.out]
            exact any_at _ rs k (x1, x2) HX.out (by simp [h1, h2])
          clear h1 h2 hwb
          go_wp2
          go_ret
          exact ⟨by rw [HYES.out]; rfl, HB2.out⟩
        · have h2' : ¬ (V : Int) ≤ (x2 : Int) := by omega
          have h2d : decide ((V : Int) ≤ (x2 : Int)) = false := decide_eq_false h2'
          have HNO2 : Hid (∀ (j : Nat) u, j < k + 1 → rs[j]? = some u → (decide (u.1 ≤ V) && decide (V ≤ u.2)) = false) := by
            intro j u hj hu
            by_cases hj' : j < k
            · exact HNO.out j u hj' hu
            · obtain rfl : j = k := by omega
              rw [HX.out, Option.some.injEq] at hu
              subst hu
              simp [h2]
          clear h1 h2 hwb
          go_wp2
          exact ⟨⟨k + 1, by omega, by go_num, HNO2, HB2⟩, by simp [intOf]; omega⟩
      · have h1' : ¬ (x1 : Int) ≤ (V : Int) := by omega
        have h1d : decide ((x1 : Int) ≤ (V : Int)) = false := decide_eq_false h1'
        have HNO2 : Hid (∀ (j : Nat) u, j < k + 1 → rs[j]? = some u → (decide (u.1 ≤ V) && decide (V ≤ u.2)) = false) := by
          intro j u hj hu
          by_cases hj' : j < k
          · exact HNO.out j u hj' hu
          · obtain rfl : j = k := by omega
            rw [HX.out, Option.some.injEq] at hu
            subst hu
            simp [h1]
        clear h1 hwb
        go_wp2
        exact ⟨⟨k + 1, by omega, by go_num, HNO2, HB2⟩, by simp [intOf]; omega⟩
    · obtain rfl : k = n := by omega
      have hlt' : ¬ (k : Int) < (k : Int) := by omega
      have HNOT : Hid (ANS = false) := by
        show ANS = false
        rw [HANS.out]
        refine any_no _ rs (fun j u hu => HNO.out j u ?_ hu)
        rcases Nat.lt_or_ge j rs.length with q | q
        · have := HN.out; omega
        · rw [List.getElem?_eq_none q] at hu; cases hu
      clear HAT c0 c1 c2 c3
      go_wp2
      go_ret
      exact ⟨by rw [HNOT.out]; rfl, HBW.out⟩

set_option maxRecDepth 100000 in
set_option maxHeartbeats 2000000 in
theorem found_o (op : Nat) (d : Int) (q : Bool) (ao : Option Addr) (n cap V : Nat) (rs : List (Nat × Nat)) (i : ByteArray) (v z : Int) (f t : ByteArray) (e : Int) (w : World) (base : Nat)
    (hop : ((op : Int) == 110) = false) (hval : ∀ X, Calls Tryz.prog 282 #[.agg #[.int .u8 (op : Int), .int .i64 d], opV i v z f t e] X fun e' w' => e' = .returned (.int .i64 (V : Int)) ∧ Below X.heap.size X w')
    (hls : Lst base 303 2 ElRange rs (.slice ao n cap) w) :
    Calls Tryz.prog 253 #[.agg #[.int .u8 (op : Int), .int .i64 d, .bool q, .slice ao n cap], opV i v z f t e] w fun e w' => e = .returned (.bool (rs.any fun b => decide (b.1 ≤ V) && decide (V ≤ b.2))) ∧ Below w.heap.size w w' := by
  obtain ⟨hn, hnm, hat⟩ := hls.at
  have hnm2 : maxLen ≤ 9223372036854775807 := by decide
  have HAT := hide hat
  have HN := hide hn
  have HV := hide hval
  obtain ⟨ANS, hANS⟩ : ∃ b, b = rs.any fun b => decide (b.1 ≤ V) && decide (V ≤ b.2) := ⟨_, rfl⟩
  rw [← hANS]
  have HANS := hide hANS
  have HB : Hid (Below w.heap.size w ((w.alloc (.cells #[.int .u8 (op : Int), .int .i64 d, .bool q, .slice ao n cap] 229)).alloc (.cells #[.string i, .int .i64 v, .int .i64 z, .string f, .string t, .int .i64 e] 37))) := ((Below.refl _ _).alloc (Nat.le_refl _) _).alloc (by simp) _
  have BR := hide (Blk.alloc (Blk.newAt w w.heap.size rfl #[.int .u8 (op : Int), .int .i64 d, .bool q, .slice ao n cap] 229) (.cells #[.string i, .int .i64 v, .int .i64 z, .string f, .string t, .int .i64 e] 37))
  have hnb : n ≤ 9223372036854775807 := by omega
  clear hls hn hnm hat hval hANS hnm2
  go_enter Tryz.func253, Tryz.ntmps253
  go_wp2_with fail
  refine (HV.out _).mono ?_
  rintro e w1 ⟨rfl, hb⟩
  have BR1 := Blk.on BR hb
  have HB1 := hide (HB.out.trans (hb.mono HB.out.size))
  clear hb HV BR HB
  obtain ⟨c0, c1, c2, c3⟩ := BR1.out.four
  go_wp2
  go_loopw [24] (fun p wr => ∃ k : Nat, k ≤ n ∧ p = .int .i64 (k : Int) ∧ Hid (∀ (j : Nat) u, j < k → rs[j]? = some u → (decide (u.1 ≤ V) && decide (V ≤ u.2)) = false) ∧ Hid (Below w.heap.size w wr)) (fun p _ => n - (intOf p).toNat)
  case atStart => exact ⟨0, Nat.zero_le _, rfl, fun j u h _ => by omega, HB1⟩
  case round =>
    obtain ⟨k, hk, rfl, HNO, HBW⟩ := hrel
    by_cases hlt : k < n
    · have hlt' : (k : Int) < (n : Int) := by omega
      obtain ⟨x, hx⟩ : ∃ x, rs[k]? = some x := ⟨_, List.getElem?_eq_getElem (by have := HN.out; omega)⟩
      obtain ⟨g, c, rfl, hg, hcl, hel, hcell⟩ := HAT.out k x hx
      obtain rfl : c = _ := hel
      have d0 := (HBW.out.cell (p := ⟨g, k * 2 + 0, none⟩) hg).trans (hcell 0 _ rfl)
      have d1 := (HBW.out.cell (p := ⟨g, k * 2 + 1, none⟩) hg).trans (hcell 1 _ rfl)
      rw [Nat.add_zero] at d0
      obtain ⟨x1, x2⟩ := x
      dsimp only at d0 d1
      have HX := hide hx
      have HB2 : Hid (Below w.heap.size w (wr.alloc (.cells #[.int .i64 (x1 : Int), .int .i64 (x2 : Int)] 303))) := HBW.out.alloc HBW.out.size _
      have hwb : k * 2 < 9223372036854775807 * 2 := by omega
      clear hx hcell hcl hg HAT c0 c1 c2 c3
      by_cases h1 : x1 ≤ V
      · have h1' : (x1 : Int) ≤ (V : Int) := by omega
        have h1d : decide ((x1 : Int) ≤ (V : Int)) = true := decide_eq_true h1'
        by_cases h2 : V ≤ x2
        · have h2' : (V : Int) ≤ (x2 : Int) := by omega
          have h2d : decide ((V : Int) ≤ (x2 : Int)) = true := decide_eq_true h2'
          have HYES : Hid (ANS = true) := by
            show ANS = true
            rw [HANS.out]
            exact any_at _ rs k (x1, x2) HX.out (by simp [h1, h2])
          clear h1 h2 hwb
          go_wp2
          go_ret
          exact ⟨by rw [HYES.out]; rfl, HB2.out⟩
        · have h2' : ¬ (V : Int) ≤ (x2 : Int) := by omega
          have h2d : decide ((V : Int) ≤ (x2 : Int)) = false := decide_eq_false h2'
          have HNO2 : Hid (∀ (j : Nat) u, j < k + 1 → rs[j]? = some u → (decide (u.1 ≤ V) && decide (V ≤ u.2)) = false) := by
            intro j u hj hu
            by_cases hj' : j < k
            · exact HNO.out j u hj' hu
            · obtain rfl : j = k := by omega
              rw [HX.out, Option.some.injEq] at hu
              subst hu
              simp [h2]
          clear h1 h2 hwb
          go_wp2
          exact ⟨⟨k + 1, by omega, by go_num, HNO2, HB2⟩, by simp [intOf]; omega⟩
      · have h1' : ¬ (x1 : Int) ≤ (V : Int) := by omega
        have h1d : decide ((x1 : Int) ≤ (V : Int)) = false := decide_eq_false h1'
        have HNO2 : Hid (∀ (j : Nat) u, j < k + 1 → rs[j]? = some u → (decide (u.1 ≤ V) && decide (V ≤ u.2)) = false) := by
          intro j u hj hu
          by_cases hj' : j < k
          · exact HNO.out j u hj' hu
          · obtain rfl : j = k := by omega
            rw [HX.out, Option.some.injEq] at hu
            subst hu
            simp [h1]
        clear h1 hwb
        go_wp2
        exact ⟨⟨k + 1, by omega, by go_num, HNO2, HB2⟩, by simp [intOf]; omega⟩
    · obtain rfl : k = n := by omega
      have hlt' : ¬ (k : Int) < (k : Int) := by omega
      have HNOT : Hid (ANS = false) := by
        show ANS = false
        rw [HANS.out]
        refine any_no _ rs (fun j u hu => HNO.out j u ?_ hu)
        rcases Nat.lt_or_ge j rs.length with q | q
        · have := HN.out; omega
        · rw [List.getElem?_eq_none q] at hu; cases hu
      clear HAT c0 c1 c2 c3
      go_wp2
      go_ret
      exact ⟨by rw [HNOT.out]; rfl, HBW.out⟩


theorem found_any (base : Nat) (r : RelT) (ao : Option Addr) (n cap : Nat) (i : ByteArray) (v z : Int) (f t : ByteArray) (e : Int) (w : World) (hd : r.div < 1000000000) (hc : r.op ∈ opsT) (hm : MayO ⟨bys i, v, z, bys f, bys t, e⟩) (hls : Lst base 303 2 ElRange r.rs (.slice ao n cap) w) :
    Calls Tryz.prog 253 #[.agg #[.int .u8 (r.op.toNat : Int), .int .i64 (r.div : Int), .bool r.neq, .slice ao n cap], opV i v z f t e] w fun e' w' => e' = .returned (.bool (foundT r ⟨bys i, v, z, bys f, bys t, e⟩)) ∧ Below w.heap.size w w' := by
  have hval := fun X => value_any r.op r.div i v z f t e X hd hc hm
  unfold foundT
  by_cases h1 : r.op.toNat = 110
  · by_cases h2 : bys t = [48]
    · rw [if_neg (fun h => h.2 h2)]
      obtain rfl : t = ⟨#[48]⟩ := by
        cases t with
        | mk d => cases d with
          | mk l => have : l = [48] := h2
                    subst this; rfl
      rw [h1] at hval ⊢
      exact found_n (r.div : Int) r.neq ao n cap _ r.rs i v z f e w base hval hls
    · rw [if_pos ⟨h1, h2⟩, h1]
      exact found_frac (r.div : Int) r.neq ao n cap i v z f t e w h2
  · rw [if_neg (fun h => h1 h.1)]
    exact found_o r.op.toNat (r.div : Int) r.neq ao n cap _ r.rs i v z f t e w base (beq_eq_false_iff_ne.2 (by omega)) hval hls

end Go.Proofs.YtkbciljfjijclaaGreatDoor

namespace Go.Proofs.YtkbciljfjijclaaGreatDoor
open Go.RowKit

def GoodR (r : RelT) : Prop := r.op ∈ opsT ∧ r.div < 1000000000

theorem bool_bne (a b : Bool) : ∀ (w : World), (binOp .neq 4 (.bool a) (.bool b)).run Tryz.prog w = .ok (.bool (a != b)) w := by
  cases a <;> cases b
  · intro w; kernel_rfl
  · intro w; kernel_rfl
  · intro w; kernel_rfl
  · intro w; kernel_rfl

set_option maxRecDepth 100000 in
set_option maxHeartbeats 2000000 in
theorem rholds_gen (op : Nat) (d : Int) (q : Bool) (ao : Option Addr) (n cap : Nat) (A : Bool) (i : ByteArray) (v z : Int) (f t : ByteArray) (e : Int) (w : World)
    (hF : ∀ X, Hid (Below w.heap.size w X) → Calls Tryz.prog 253 #[.agg #[.int .u8 (op : Int), .int .i64 d, .bool q, .slice ao n cap], opV i v z f t e] X fun e' w' => e' = .returned (.bool A) ∧ Below X.heap.size X w') :
    Calls Tryz.prog 205 #[.agg #[.int .u8 (op : Int), .int .i64 d, .bool q, .slice ao n cap], opV i v z f t e] w fun e' w' => e' = .returned (.bool (A != q)) ∧ Below w.heap.size w w' := by
  have HF := hide hF
  clear hF
  have BR := hide (Blk.alloc (Blk.newAt w w.heap.size rfl #[.int .u8 (op : Int), .int .i64 d, .bool q, .slice ao n cap] 229) (.cells #[.string i, .int .i64 v, .int .i64 z, .string f, .string t, .int .i64 e] 37))
  have BO := hide (Blk.newAt (w.alloc (.cells #[.int .u8 (op : Int), .int .i64 d, .bool q, .slice ao n cap] 229)) (w.heap.size + 1) (by simp) #[.string i, .int .i64 v, .int .i64 z, .string f, .string t, .int .i64 e] 37)
  have HB : Hid (Below w.heap.size w ((w.alloc (.cells #[.int .u8 (op : Int), .int .i64 d, .bool q, .slice ao n cap] 229)).alloc (.cells #[.string i, .int .i64 v, .int .i64 z, .string f, .string t, .int .i64 e] 37))) := ((Below.refl _ _).alloc (Nat.le_refl _) _).alloc (by simp) _
  obtain ⟨R, hR⟩ : ∃ R, R = (A != q) := ⟨_, rfl⟩
  have hbn : ∀ (w : World), (binOp .neq 4 (.bool A) (.bool q)).run Tryz.prog w = .ok (.bool R) w := by rw [hR]; exact bool_bne A q
  rw [← hR]
  clear hR
  have d0 : ((w.alloc (.cells #[.int .u8 (op : Int), .int .i64 d, .bool q, .slice ao n cap] 229)).alloc (.cells #[.string i, .int .i64 v, .int .i64 z, .string f, .string t, .int .i64 e] 37)).cell? ⟨w.heap.size, 0, none⟩ = some (.int .u8 (op : Int)) := BR.out.cell 0
  have d1 : ((w.alloc (.cells #[.int .u8 (op : Int), .int .i64 d, .bool q, .slice ao n cap] 229)).alloc (.cells #[.string i, .int .i64 v, .int .i64 z, .string f, .string t, .int .i64 e] 37)).cell? ⟨w.heap.size, 1, none⟩ = some (.int .i64 d) := BR.out.cell 1
  have d2 : ((w.alloc (.cells #[.int .u8 (op : Int), .int .i64 d, .bool q, .slice ao n cap] 229)).alloc (.cells #[.string i, .int .i64 v, .int .i64 z, .string f, .string t, .int .i64 e] 37)).cell? ⟨w.heap.size, 2, none⟩ = some (.bool q) := BR.out.cell 2
  have d3 : ((w.alloc (.cells #[.int .u8 (op : Int), .int .i64 d, .bool q, .slice ao n cap] 229)).alloc (.cells #[.string i, .int .i64 v, .int .i64 z, .string f, .string t, .int .i64 e] 37)).cell? ⟨w.heap.size, 3, none⟩ = some (.slice ao n cap) := BR.out.cell 3
  have d4 : ((w.alloc (.cells #[.int .u8 (op : Int), .int .i64 d, .bool q, .slice ao n cap] 229)).alloc (.cells #[.string i, .int .i64 v, .int .i64 z, .string f, .string t, .int .i64 e] 37)).cell? ⟨w.heap.size + 1, 0, none⟩ = some (.string i) := BO.out.cell 0
  have d5 : ((w.alloc (.cells #[.int .u8 (op : Int), .int .i64 d, .bool q, .slice ao n cap] 229)).alloc (.cells #[.string i, .int .i64 v, .int .i64 z, .string f, .string t, .int .i64 e] 37)).cell? ⟨w.heap.size + 1, 1, none⟩ = some (.int .i64 v) := BO.out.cell 1
  have d6 : ((w.alloc (.cells #[.int .u8 (op : Int), .int .i64 d, .bool q, .slice ao n cap] 229)).alloc (.cells #[.string i, .int .i64 v, .int .i64 z, .string f, .string t, .int .i64 e] 37)).cell? ⟨w.heap.size + 1, 2, none⟩ = some (.int .i64 z) := BO.out.cell 2
  have d7 : ((w.alloc (.cells #[.int .u8 (op : Int), .int .i64 d, .bool q, .slice ao n cap] 229)).alloc (.cells #[.string i, .int .i64 v, .int .i64 z, .string f, .string t, .int .i64 e] 37)).cell? ⟨w.heap.size + 1, 3, none⟩ = some (.string f) := BO.out.cell 3
  have d8 : ((w.alloc (.cells #[.int .u8 (op : Int), .int .i64 d, .bool q, .slice ao n cap] 229)).alloc (.cells #[.string i, .int .i64 v, .int .i64 z, .string f, .string t, .int .i64 e] 37)).cell? ⟨w.heap.size + 1, 4, none⟩ = some (.string t) := BO.out.cell 4
  have d9 : ((w.alloc (.cells #[.int .u8 (op : Int), .int .i64 d, .bool q, .slice ao n cap] 229)).alloc (.cells #[.string i, .int .i64 v, .int .i64 z, .string f, .string t, .int .i64 e] 37)).cell? ⟨w.heap.size + 1, 5, none⟩ = some (.int .i64 e) := BO.out.cell 5
  have HC : Hid (∀ w', Below ((w.alloc (.cells #[.int .u8 (op : Int), .int .i64 d, .bool q, .slice ao n cap] 229)).alloc (.cells #[.string i, .int .i64 v, .int .i64 z, .string f, .string t, .int .i64 e] 37)).heap.size ((w.alloc (.cells #[.int .u8 (op : Int), .int .i64 d, .bool q, .slice ao n cap] 229)).alloc (.cells #[.string i, .int .i64 v, .int .i64 z, .string f, .string t, .int .i64 e] 37)) w' → w'.cell? ⟨w.heap.size, 0, none⟩ = some (.int .u8 (op : Int)) ∧ w'.cell? ⟨w.heap.size, 1, none⟩ = some (.int .i64 d) ∧ w'.cell? ⟨w.heap.size, 2, none⟩ = some (.bool q) ∧ w'.cell? ⟨w.heap.size, 3, none⟩ = some (.slice ao n cap) ∧ w'.cell? ⟨w.heap.size + 1, 0, none⟩ = some (.string i) ∧ w'.cell? ⟨w.heap.size + 1, 1, none⟩ = some (.int .i64 v) ∧ w'.cell? ⟨w.heap.size + 1, 2, none⟩ = some (.int .i64 z) ∧ w'.cell? ⟨w.heap.size + 1, 3, none⟩ = some (.string f) ∧ w'.cell? ⟨w.heap.size + 1, 4, none⟩ = some (.string t) ∧ w'.cell? ⟨w.heap.size + 1, 5, none⟩ = some (.int .i64 e)) := by
    intro w' hb
    have BRq := BR.out.below hb BR.out.lt
    have BOq := BO.out.below hb BO.out.lt
    exact ⟨BRq.cell 0, BRq.cell 1, BRq.cell 2, BRq.cell 3, BOq.cell 0, BOq.cell 1, BOq.cell 2, BOq.cell 3, BOq.cell 4, BOq.cell 5⟩
  have b0 : Hid (Below ((w.alloc (.cells #[.int .u8 (op : Int), .int .i64 d, .bool q, .slice ao n cap] 229)).alloc (.cells #[.string i, .int .i64 v, .int .i64 z, .string f, .string t, .int .i64 e] 37)).heap.size ((w.alloc (.cells #[.int .u8 (op : Int), .int .i64 d, .bool q, .slice ao n cap] 229)).alloc (.cells #[.string i, .int .i64 v, .int .i64 z, .string f, .string t, .int .i64 e] 37)) ((w.alloc (.cells #[.int .u8 (op : Int), .int .i64 d, .bool q, .slice ao n cap] 229)).alloc (.cells #[.string i, .int .i64 v, .int .i64 z, .string f, .string t, .int .i64 e] 37)).drew) := bdrewD ((w.alloc (.cells #[.int .u8 (op : Int), .int .i64 d, .bool q, .slice ao n cap] 229)).alloc (.cells #[.string i, .int .i64 v, .int .i64 z, .string f, .string t, .int .i64 e] 37))
  have C0 : Hid (∀ X, Hid (Below ((w.alloc (.cells #[.int .u8 (op : Int), .int .i64 d, .bool q, .slice ao n cap] 229)).alloc (.cells #[.string i, .int .i64 v, .int .i64 z, .string f, .string t, .int .i64 e] 37)).heap.size ((w.alloc (.cells #[.int .u8 (op : Int), .int .i64 d, .bool q, .slice ao n cap] 229)).alloc (.cells #[.string i, .int .i64 v, .int .i64 z, .string f, .string t, .int .i64 e] 37)) X) → Calls Tryz.prog 253 #[.agg #[.int .u8 (op : Int), .int .i64 d, .bool q, .slice ao n cap], .agg #[.string i, .int .i64 v, .int .i64 z, .string f, .string t, .int .i64 e]] X fun e' w' => e' = .returned (.bool A) ∧ Hid (Below ((w.alloc (.cells #[.int .u8 (op : Int), .int .i64 d, .bool q, .slice ao n cap] 229)).alloc (.cells #[.string i, .int .i64 v, .int .i64 z, .string f, .string t, .int .i64 e] 37)).heap.size ((w.alloc (.cells #[.int .u8 (op : Int), .int .i64 d, .bool q, .slice ao n cap] 229)).alloc (.cells #[.string i, .int .i64 v, .int .i64 z, .string f, .string t, .int .i64 e] 37)) w') ∧ w'.cell? ⟨w.heap.size, 0, none⟩ = some (.int .u8 (op : Int)) ∧ w'.cell? ⟨w.heap.size, 1, none⟩ = some (.int .i64 d) ∧ w'.cell? ⟨w.heap.size, 2, none⟩ = some (.bool q) ∧ w'.cell? ⟨w.heap.size, 3, none⟩ = some (.slice ao n cap) ∧ w'.cell? ⟨w.heap.size + 1, 0, none⟩ = some (.string i) ∧ w'.cell? ⟨w.heap.size + 1, 1, none⟩ = some (.int .i64 v) ∧ w'.cell? ⟨w.heap.size + 1, 2, none⟩ = some (.int .i64 z) ∧ w'.cell? ⟨w.heap.size + 1, 3, none⟩ = some (.string f) ∧ w'.cell? ⟨w.heap.size + 1, 4, none⟩ = some (.string t) ∧ w'.cell? ⟨w.heap.size + 1, 5, none⟩ = some (.int .i64 e)) := by
    intro X bX
    refine (HF.out X (HB.out.trans (bX.out.mono HB.out.size))).mono ?_
    rintro e' w' ⟨rfl, hb⟩
    have bb := bX.out.trans (hb.mono bX.out.size)
    exact ⟨rfl, bb, HC.out _ bb⟩
  clear HC HF BR BO
  go_enter Tryz.func205, Tryz.ntmps205
  go_wp2_with fail
  have mk0 : True := trivial
  go_region_held3 (fun w' => w'.cell? ⟨w.heap.size, 0, none⟩ = some (.int .u8 (op : Int)) ∧ w'.cell? ⟨w.heap.size, 1, none⟩ = some (.int .i64 d) ∧ w'.cell? ⟨w.heap.size, 2, none⟩ = some (.bool q) ∧ w'.cell? ⟨w.heap.size, 3, none⟩ = some (.slice ao n cap) ∧ w'.cell? ⟨w.heap.size + 1, 0, none⟩ = some (.string i) ∧ w'.cell? ⟨w.heap.size + 1, 1, none⟩ = some (.int .i64 v) ∧ w'.cell? ⟨w.heap.size + 1, 2, none⟩ = some (.int .i64 z) ∧ w'.cell? ⟨w.heap.size + 1, 3, none⟩ = some (.string f) ∧ w'.cell? ⟨w.heap.size + 1, 4, none⟩ = some (.string t) ∧ w'.cell? ⟨w.heap.size + 1, 5, none⟩ = some (.int .i64 e)) (go_keep) (first
    | (clear mk0; go_at_call 253; refine (C0.out _ b0).mono ?_; rintro e' v1 ⟨rfl, b1, q0, q1, q2, q3, q4, q5, q6, q7, q8, q9⟩; have mk1 : True := trivial))
  have HB1 := hide (HB.out.trans (b1.out.mono HB.out.size))
  clear b0 b1 C0
  go_wp2
  go_ret
  exact ⟨rfl, HB1.out⟩

theorem rholds_any (base : Nat) (r : RelT) (ao : Option Addr) (n cap : Nat) (i : ByteArray) (v z : Int) (f t : ByteArray) (e : Int) (w : World) (hg : GoodR r) (hm : MayO ⟨bys i, v, z, bys f, bys t, e⟩) (hls : Lst base 303 2 ElRange r.rs (.slice ao n cap) w) :
    Calls Tryz.prog 205 #[.agg #[.int .u8 (r.op.toNat : Int), .int .i64 (r.div : Int), .bool r.neq, .slice ao n cap], opV i v z f t e] w fun e' w' => e' = .returned (.bool (relH ⟨bys i, v, z, bys f, bys t, e⟩ r)) ∧ Below w.heap.size w w' :=
  rholds_gen r.op.toNat _ _ ao n cap _ i v z f t e w (fun X bX => found_any base r ao n cap i v z f t e X hg.2 hg.1 hm (hls.kt (S := fun _ => True) (KT.of_below bX.out) trivial (fun _ _ h => h)))

set_option maxRecDepth 100000 in
set_option maxHeartbeats 2000000 in
theorem eachHolds_gen (base : Nat) (xs : List RelT) (ao : Option Addr) (n cap : Nat) (ANS : Bool) (i : ByteArray) (v z : Int) (f t : ByteArray) (e : Int) (w : World) (hgood : ∀ r, r ∈ xs → GoodR r) (hm : MayO ⟨bys i, v, z, bys f, bys t, e⟩) (hANS : ANS = allH ⟨bys i, v, z, bys f, bys t, e⟩ xs) (hls : Lst base 229 4 (ElRel base) xs (.slice ao n cap) w) :
    Calls Tryz.prog 154 #[.slice ao n cap, opV i v z f t e] w fun e' w' => e' = .returned (.bool ANS) ∧ Below w.heap.size w w' := by
  obtain ⟨hn, hnm, hat⟩ := hls.at
  have hnm2 : maxLen ≤ 9223372036854775807 := by decide
  have HAT := hide hat
  have HN := hide hn
  have HANS := hide hANS
  have HG := hide hgood
  have HM := hide hm
  have hnb : n ≤ 9223372036854775807 := by omega
  have HB0 : Hid (Below w.heap.size w (w.alloc (.cells #[.string i, .int .i64 v, .int .i64 z, .string f, .string t, .int .i64 e] 37))) := (Below.refl _ _).alloc (Nat.le_refl _) _
  have BO0 := hide (Blk.newAt w w.heap.size rfl #[.string i, .int .i64 v, .int .i64 z, .string f, .string t, .int .i64 e] 37)
  clear hls hn hnm hat hANS hnm2 hgood hm
  go_enter Tryz.func154, Tryz.ntmps154
  go_wp2
  go_loopw [9] (fun p wr => ∃ k : Nat, k ≤ n ∧ p = .int .i64 (k : Int) ∧ Hid (∀ (j : Nat) u, j < k → xs[j]? = some u → relH ⟨bys i, v, z, bys f, bys t, e⟩ u = true) ∧ Hid (Below w.heap.size w wr) ∧ Hid (Blk wr w.heap.size #[.string i, .int .i64 v, .int .i64 z, .string f, .string t, .int .i64 e] 37)) (fun p _ => n - (intOf p).toNat)
  case atStart => exact ⟨0, Nat.zero_le _, rfl, fun j u h _ => by omega, HB0, BO0⟩
  case round =>
    obtain ⟨k, hk, rfl, HNO, HBW, BO⟩ := hrel
    by_cases hlt : k < n
    · have hlt' : (k : Int) < (n : Int) := by omega
      obtain ⟨x, hx⟩ : ∃ x, xs[k]? = some x := ⟨_, List.getElem?_eq_getElem (by have := HN.out; omega)⟩
      have hgx := HG.out x (List.mem_of_getElem? hx)
      obtain ⟨g, c, rfl, hg, hcl, hel, hcell⟩ := HAT.out k x hx
      obtain ⟨sv, rfl, hlr⟩ := hel
      obtain ⟨sa, sn, sc, rfl⟩ := Lst.slice hlr
      have d0 := (HBW.out.cell (p := ⟨g, k * 4 + 0, none⟩) hg).trans (hcell 0 _ rfl)
      have d1 := (HBW.out.cell (p := ⟨g, k * 4 + 1, none⟩) hg).trans (hcell 1 _ rfl)
      have d2 := (HBW.out.cell (p := ⟨g, k * 4 + 2, none⟩) hg).trans (hcell 2 _ rfl)
      have d3 := (HBW.out.cell (p := ⟨g, k * 4 + 3, none⟩) hg).trans (hcell 3 _ rfl)
      rw [Nat.add_zero] at d0
      have HX := hide hx
      have HBv : Hid (Below w.heap.size w (wr.alloc (.cells #[.int .u8 (x.op.toNat : Int), .int .i64 (x.div : Int), .bool x.neq, .slice sa sn sc] 229))) := HBW.out.alloc HBW.out.size _
      have BOv := hide (Blk.alloc BO.out (.cells #[.int .u8 (x.op.toNat : Int), .int .i64 (x.div : Int), .bool x.neq, .slice sa sn sc] 229))
      have BVv := hide (Blk.newAt wr wr.heap.size rfl #[.int .u8 (x.op.toNat : Int), .int .i64 (x.div : Int), .bool x.neq, .slice sa sn sc] 229)
      have CC := hide (rholds_any base x sa sn sc i v z f t e (wr.alloc (.cells #[.int .u8 (x.op.toNat : Int), .int .i64 (x.div : Int), .bool x.neq, .slice sa sn sc] 229)) hgx HM.out (hlr.kt (S := fun _ => True) (KT.of_below HBv.out) trivial (fun _ _ h => h)))
      obtain ⟨p0, p1, p2, p3⟩ := BVv.out.four
      generalize hPP : relH ⟨bys i, v, z, bys f, bys t, e⟩ x = PP at CC
      have HPP := hide hPP
      clear hPP
      clear hx hcell hcl hg HAT hgx HG HM
      obtain ⟨o0, o1, o2, o3, o4, o5⟩ := BOv.out.six
      go_wp2_with fail
      refine (CC.out).mono ?_
      rintro e' w2 ⟨rfl, hb2⟩
      have HBW2 := hide (HBv.out.trans (hb2.mono HBv.out.size))
      have BO2 := Blk.on BOv hb2
      clear hb2
      cases hh : PP with
      | true =>
        have HNO2 : Hid (∀ (j : Nat) u, j < k + 1 → xs[j]? = some u → relH ⟨bys i, v, z, bys f, bys t, e⟩ u = true) := by
          intro j u hj hu
          by_cases hj' : j < k
          · exact HNO.out j u hj' hu
          · obtain rfl : j = k := by omega
            rw [HX.out, Option.some.injEq] at hu
            subst hu
            rw [HPP.out]; exact hh
        subst hh
        go_wp2
        exact ⟨⟨k + 1, by omega, by go_num, HNO2, HBW2, BO2⟩, by simp [intOf]; omega⟩
      | false =>
        subst hh
        have HF : Hid (ANS = false) := by
          show ANS = false
          rw [HANS.out]
          unfold allH
          rw [List.all_eq_false]
          exact ⟨x, List.mem_of_getElem? HX.out, by rw [HPP.out]; simp⟩
        go_wp2
        go_ret
        exact ⟨by rw [HF.out]; rfl, HBW2.out⟩
    · obtain rfl : k = n := by omega
      have hlt' : ¬ (k : Int) < (k : Int) := by omega
      have HEND : Hid (ANS = true) := by
        show ANS = _
        rw [HANS.out]
        unfold allH
        rw [List.all_eq_true]
        intro u hu
        obtain ⟨j, hj⟩ := List.getElem?_of_mem hu
        refine HNO.out j u ?_ hj
        have hu := hj
        rcases Nat.lt_or_ge j xs.length with q | q
        · have := HN.out; omega
        · rw [List.getElem?_eq_none q] at hu; cases hu
      clear HAT HG HM
      go_wp2
      go_ret
      exact ⟨by rw [HEND.out]; rfl, HBW.out⟩

theorem eachHolds_any (base : Nat) (xs : List RelT) (ao : Option Addr) (n cap : Nat) (i : ByteArray) (v z : Int) (f t : ByteArray) (e : Int) (w : World) (hgood : ∀ r, r ∈ xs → GoodR r) (hm : MayO ⟨bys i, v, z, bys f, bys t, e⟩) (hls : Lst base 229 4 (ElRel base) xs (.slice ao n cap) w) :
    Calls Tryz.prog 154 #[.slice ao n cap, opV i v z f t e] w fun e' w' => e' = .returned (.bool (allH ⟨bys i, v, z, bys f, bys t, e⟩ xs)) ∧ Below w.heap.size w w' := eachHolds_gen base xs ao n cap _ i v z f t e w hgood hm rfl hls

set_option maxRecDepth 100000 in
set_option maxHeartbeats 2000000 in
theorem ruleHolds_gen (base : Nat) (ct : Int) (xs : List (List RelT)) (ao : Option Addr) (n cap : Nat) (ANS : Bool) (i : ByteArray) (v z : Int) (f t : ByteArray) (e : Int) (w : World) (hgood : ∀ l, l ∈ xs → ∀ r, r ∈ l → GoodR r) (hm : MayO ⟨bys i, v, z, bys f, bys t, e⟩) (hANS : ANS = condH ⟨bys i, v, z, bys f, bys t, e⟩ xs) (hls : Lst base 172 1 (ElAll base) xs (.slice ao n cap) w) :
    Calls Tryz.prog 103 #[.agg #[.int .i64 ct, .slice ao n cap], opV i v z f t e] w fun e' w' => e' = .returned (.bool ANS) ∧ Below w.heap.size w w' := by
  obtain ⟨hn, hnm, hat⟩ := hls.at
  have hnm2 : maxLen ≤ 9223372036854775807 := by decide
  have HAT := hide hat
  have HN := hide hn
  have HANS := hide hANS
  have HG := hide hgood
  have HM := hide hm
  have hnb : n ≤ 9223372036854775807 := by omega
  have HB0 : Hid (Below w.heap.size w ((w.alloc (.cells #[.int .i64 ct, .slice ao n cap] 120)).alloc (.cells #[.string i, .int .i64 v, .int .i64 z, .string f, .string t, .int .i64 e] 37))) := ((Below.refl _ _).alloc (Nat.le_refl _) _).alloc (by simp) _
  have BO0 := hide (Blk.newAt (w.alloc (.cells #[.int .i64 ct, .slice ao n cap] 120)) (w.heap.size + 1) (by simp) #[.string i, .int .i64 v, .int .i64 z, .string f, .string t, .int .i64 e] 37)
  clear hls hn hnm hat hANS hnm2 hgood hm
  go_enter Tryz.func103, Tryz.ntmps103
  go_wp2
  go_loopw [10] (fun p wr => ∃ k : Nat, k ≤ n ∧ p = .int .i64 (k : Int) ∧ Hid (∀ (j : Nat) u, j < k → xs[j]? = some u → allH ⟨bys i, v, z, bys f, bys t, e⟩ u = false) ∧ Hid (Below w.heap.size w wr) ∧ Hid (Blk wr (w.heap.size + 1) #[.string i, .int .i64 v, .int .i64 z, .string f, .string t, .int .i64 e] 37)) (fun p _ => n - (intOf p).toNat)
  case atStart => exact ⟨0, Nat.zero_le _, rfl, fun j u h _ => by omega, HB0, BO0⟩
  case round =>
    obtain ⟨k, hk, rfl, HNO, HBW, BO⟩ := hrel
    by_cases hlt : k < n
    · have hlt' : (k : Int) < (n : Int) := by omega
      obtain ⟨x, hx⟩ : ∃ x, xs[k]? = some x := ⟨_, List.getElem?_eq_getElem (by have := HN.out; omega)⟩
      have hgx := HG.out x (List.mem_of_getElem? hx)
      obtain ⟨g, c, rfl, hg, hcl, hel, hcell⟩ := HAT.out k x hx
      obtain ⟨sv, rfl, hlr⟩ := hel
      obtain ⟨sa, sn, sc, rfl⟩ := Lst.slice hlr
      have d0 := (HBW.out.cell (p := ⟨g, k * 1 + 0, none⟩) hg).trans (hcell 0 _ rfl)
      rw [Nat.add_zero] at d0
      have HX := hide hx
      rw [Nat.mul_one] at d0
      have CC := hide (eachHolds_any base x sa sn sc i v z f t e wr hgx HM.out (hlr.kt (S := fun _ => True) (KT.of_below HBW.out) trivial (ElRel.kt (S := fun _ => True) trivial _ _ (KT.of_below HBW.out))))
      generalize hPP : allH ⟨bys i, v, z, bys f, bys t, e⟩ x = PP at CC
      have HPP := hide hPP
      clear hPP
      clear hx hcell hcl hg HAT hgx HG HM
      obtain ⟨o0, o1, o2, o3, o4, o5⟩ := BO.out.six
      go_wp2_with fail
      refine (CC.out).mono ?_
      rintro e' w2 ⟨rfl, hb2⟩
      have HBW2 := hide (HBW.out.trans (hb2.mono HBW.out.size))
      have BO2 := Blk.on BO hb2
      clear hb2
      cases hh : PP with
      | true =>
        subst hh
        have HF : Hid (ANS = true) := by
          show ANS = true
          rw [HANS.out]
          exact any_at _ xs k x HX.out HPP.out
        go_wp2
        go_ret
        exact ⟨by rw [HF.out]; rfl, HBW2.out⟩
      | false =>
        have HNO2 : Hid (∀ (j : Nat) u, j < k + 1 → xs[j]? = some u → allH ⟨bys i, v, z, bys f, bys t, e⟩ u = false) := by
          intro j u hj hu
          by_cases hj' : j < k
          · exact HNO.out j u hj' hu
          · obtain rfl : j = k := by omega
            rw [HX.out, Option.some.injEq] at hu
            subst hu
            rw [HPP.out]; exact hh
        subst hh
        go_wp2
        exact ⟨⟨k + 1, by omega, by go_num, HNO2, HBW2, BO2⟩, by simp [intOf]; omega⟩
    · obtain rfl : k = n := by omega
      have hlt' : ¬ (k : Int) < (k : Int) := by omega
      have HEND : Hid (ANS = false) := by
        show ANS = _
        rw [HANS.out]
        refine any_no _ xs (fun j u hu => HNO.out j u ?_ hu)
        rcases Nat.lt_or_ge j xs.length with q | q
        · have := HN.out; omega
        · rw [List.getElem?_eq_none q] at hu; cases hu
      clear HAT HG HM
      go_wp2
      go_ret
      exact ⟨by rw [HEND.out]; rfl, HBW.out⟩

theorem ruleHolds_any (base : Nat) (ct : Int) (xs : List (List RelT)) (ao : Option Addr) (n cap : Nat) (i : ByteArray) (v z : Int) (f t : ByteArray) (e : Int) (w : World) (hgood : ∀ l, l ∈ xs → ∀ r, r ∈ l → GoodR r) (hm : MayO ⟨bys i, v, z, bys f, bys t, e⟩) (hls : Lst base 172 1 (ElAll base) xs (.slice ao n cap) w) :
    Calls Tryz.prog 103 #[.agg #[.int .i64 ct, .slice ao n cap], opV i v z f t e] w fun e' w' => e' = .returned (.bool (condH ⟨bys i, v, z, bys f, bys t, e⟩ xs)) ∧ Below w.heap.size w w' := ruleHolds_gen base ct xs ao n cap _ i v z f t e w hgood hm rfl hls

theorem firstH_hit (x : OperT) : ∀ (xs : List (Nat × List (List RelT))) (k : Nat) (y : Nat × List (List RelT)), xs[k]? = some y → (∀ (j : Nat) u, j < k → xs[j]? = some u → condH x u.2 = false) → condH x y.2 = true → firstH x xs = y.1
  | [], k, y, h, _, _ => by simp at h
  | u :: xs, 0, y, h, _, hy => by
    simp only [List.getElem?_cons_zero, Option.some.injEq] at h
    subst h
    rw [firstH, if_pos hy]
  | u :: xs, k + 1, y, h, hn, hy => by
    rw [firstH, if_neg (by rw [hn 0 u (by omega) rfl]; simp)]
    exact firstH_hit x xs k y (by simpa using h) (fun j u' hj hu => hn (j + 1) u' (by omega) (by simpa using hu)) hy

theorem firstH_none (x : OperT) : ∀ (xs : List (Nat × List (List RelT))), (∀ (j : Nat) u, xs[j]? = some u → condH x u.2 = false) → firstH x xs = 5
  | [], _ => rfl
  | u :: xs, hn => by
    rw [firstH, if_neg (by rw [hn 0 u rfl]; simp)]
    exact firstH_none x xs (fun j u' hu => hn (j + 1) u' (by simpa using hu))

set_option maxRecDepth 100000 in
set_option maxHeartbeats 2000000 in
theorem first_gen (base : Nat) (xs : List (Nat × List (List RelT))) (ao : Option Addr) (n cap ANS : Nat) (i : ByteArray) (v z : Int) (f t : ByteArray) (e : Int) (w : World) (hgood : ∀ y, y ∈ xs → ∀ l, l ∈ y.2 → ∀ r, r ∈ l → GoodR r) (hm : MayO ⟨bys i, v, z, bys f, bys t, e⟩) (hANS : ANS = firstH ⟨bys i, v, z, bys f, bys t, e⟩ xs) (hls : Lst base 120 2 (ElRule base) xs (.slice ao n cap) w) :
    Calls Tryz.prog 47 #[.slice ao n cap, opV i v z f t e] w fun e' w' => e' = .returned (.int .i64 (ANS : Int)) ∧ Below w.heap.size w w' := by
  obtain ⟨hn, hnm, hat⟩ := hls.at
  have hnm2 : maxLen ≤ 9223372036854775807 := by decide
  have HAT := hide hat
  have HN := hide hn
  have HANS := hide hANS
  have HG := hide hgood
  have HM := hide hm
  have hnb : n ≤ 9223372036854775807 := by omega
  have HB0 : Hid (Below w.heap.size w (w.alloc (.cells #[.string i, .int .i64 v, .int .i64 z, .string f, .string t, .int .i64 e] 37))) := (Below.refl _ _).alloc (Nat.le_refl _) _
  have BO0 := hide (Blk.newAt w w.heap.size rfl #[.string i, .int .i64 v, .int .i64 z, .string f, .string t, .int .i64 e] 37)
  clear hls hn hnm hat hANS hnm2 hgood hm
  go_enter Tryz.func47, Tryz.ntmps47
  go_wp2
  go_loopw [9] (fun p wr => ∃ k : Nat, k ≤ n ∧ p = .int .i64 (k : Int) ∧ Hid (∀ (j : Nat) u, j < k → xs[j]? = some u → condH ⟨bys i, v, z, bys f, bys t, e⟩ u.2 = false) ∧ Hid (Below w.heap.size w wr) ∧ Hid (Blk wr w.heap.size #[.string i, .int .i64 v, .int .i64 z, .string f, .string t, .int .i64 e] 37)) (fun p _ => n - (intOf p).toNat)
  case atStart => exact ⟨0, Nat.zero_le _, rfl, fun j u h _ => by omega, HB0, BO0⟩
  case round =>
    obtain ⟨k, hk, rfl, HNO, HBW, BO⟩ := hrel
    by_cases hlt : k < n
    · have hlt' : (k : Int) < (n : Int) := by omega
      obtain ⟨x, hx⟩ : ∃ x, xs[k]? = some x := ⟨_, List.getElem?_eq_getElem (by have := HN.out; omega)⟩
      have hgx := HG.out x (List.mem_of_getElem? hx)
      obtain ⟨g, c, rfl, hg, hcl, hel, hcell⟩ := HAT.out k x hx
      obtain ⟨sv, rfl, hlr⟩ := hel
      obtain ⟨sa, sn, sc, rfl⟩ := Lst.slice hlr
      have d0 := (HBW.out.cell (p := ⟨g, k * 2 + 0, none⟩) hg).trans (hcell 0 _ rfl)
      have d1 := (HBW.out.cell (p := ⟨g, k * 2 + 1, none⟩) hg).trans (hcell 1 _ rfl)
      rw [Nat.add_zero] at d0
      have HX := hide hx
      have HBv : Hid (Below w.heap.size w (wr.alloc (.cells #[.int .i64 (x.1 : Int), .slice sa sn sc] 120))) := HBW.out.alloc HBW.out.size _
      have BOv := hide (Blk.alloc BO.out (.cells #[.int .i64 (x.1 : Int), .slice sa sn sc] 120))
      have BVv := hide (Blk.newAt wr wr.heap.size rfl #[.int .i64 (x.1 : Int), .slice sa sn sc] 120)
      have CC := hide (ruleHolds_any base (x.1 : Int) x.2 sa sn sc i v z f t e (wr.alloc (.cells #[.int .i64 (x.1 : Int), .slice sa sn sc] 120)) hgx HM.out (hlr.kt (S := fun _ => True) (KT.of_below HBv.out) trivial (ElAll.kt (S := fun _ => True) trivial trivial _ _ (KT.of_below HBv.out))))
      obtain ⟨p0, p1⟩ := BVv.out.two
      generalize hPP : condH ⟨bys i, v, z, bys f, bys t, e⟩ x.2 = PP at CC
      have HPP := hide hPP
      clear hPP
      generalize hx1 : x.1 = x1 at *
      have HX1 := hide hx1
      clear hx1
      clear hx hcell hcl hg HAT hgx HG HM
      obtain ⟨o0, o1, o2, o3, o4, o5⟩ := BOv.out.six
      go_wp2_with fail
      refine (CC.out).mono ?_
      rintro e' w2 ⟨rfl, hb2⟩
      have HBW2 := hide (HBv.out.trans (hb2.mono HBv.out.size))
      have BO2 := Blk.on BOv hb2
      have BV2 := Blk.on BVv hb2
      obtain ⟨s0, s1⟩ := BV2.out.two
      clear hb2
      cases hh : PP with
      | true =>
        subst hh
        have HF : Hid (ANS = x1) := by
          show ANS = x1
          rw [HANS.out, ← HX1.out]
          exact firstH_hit _ xs k x HX.out HNO.out HPP.out
        go_wp2
        go_ret
        exact ⟨by rw [HF.out]; rfl, HBW2.out⟩
      | false =>
        have HNO2 : Hid (∀ (j : Nat) u, j < k + 1 → xs[j]? = some u → condH ⟨bys i, v, z, bys f, bys t, e⟩ u.2 = false) := by
          intro j u hj hu
          by_cases hj' : j < k
          · exact HNO.out j u hj' hu
          · obtain rfl : j = k := by omega
            rw [HX.out, Option.some.injEq] at hu
            subst hu
            rw [HPP.out]; exact hh
        subst hh
        go_wp2
        exact ⟨⟨k + 1, by omega, by go_num, HNO2, HBW2, BO2⟩, by simp [intOf]; omega⟩
    · obtain rfl : k = n := by omega
      have hlt' : ¬ (k : Int) < (k : Int) := by omega
      have HEND : Hid (ANS = 5) := by
        show ANS = _
        rw [HANS.out]
        refine firstH_none _ xs (fun j u hu => HNO.out j u ?_ hu)
        rcases Nat.lt_or_ge j xs.length with q | q
        · have := HN.out; omega
        · rw [List.getElem?_eq_none q] at hu; cases hu
      clear HAT HG HM
      go_wp2
      go_ret
      exact ⟨by rw [HEND.out]; rfl, HBW.out⟩

theorem first_any (base : Nat) (xs : List (Nat × List (List RelT))) (ao : Option Addr) (n cap : Nat) (i : ByteArray) (v z : Int) (f t : ByteArray) (e : Int) (w : World) (hgood : ∀ y, y ∈ xs → ∀ l, l ∈ y.2 → ∀ r, r ∈ l → GoodR r) (hm : MayO ⟨bys i, v, z, bys f, bys t, e⟩) (hls : Lst base 120 2 (ElRule base) xs (.slice ao n cap) w) :
    Calls Tryz.prog 47 #[.slice ao n cap, opV i v z f t e] w fun e' w' => e' = .returned (.int .i64 (firstH ⟨bys i, v, z, bys f, bys t, e⟩ xs : Int)) ∧ Below w.heap.size w w' := first_gen base xs ao n cap _ i v z f t e w hgood hm rfl hls

end Go.Proofs.YtkbciljfjijclaaGreatDoor

namespace Go.Proofs.YtkbciljfjijclaaGreatDoor
open Go.RowKit

theorem exprT_good {l : List Tok} {x : UInt8 × Nat} (h : exprT l = some x) : x.1 ∈ opsT ∧ x.2 < 1000000000 := by
  have hop : ∀ {o : Tok} {c : UInt8}, operT o = some c → c ∈ opsT := by
    intro o c ho
    unfold operT at ho
    split at ho
    · split at ho
      · rename_i hc; simp only [Option.some.injEq] at ho; subst ho; exact hc
      · cases ho
    · cases ho
  match l, h with
  | [], h => simp [exprT] at h
  | [o], h =>
    simp only [exprT, Option.map_eq_some_iff] at h
    obtain ⟨c, hc, rfl⟩ := h
    exact ⟨hop hc, by show 0 < 1000000000; decide⟩
  | [_, _], h => simp [exprT] at h
  | [o, p, m], h =>
    simp only [exprT] at h
    split at h
    · cases ho : operT o with
      | none => simp [ho] at h
      | some c =>
        cases hm : numT m with
        | none => simp [ho, hm] at h
        | some k =>
          simp only [ho, hm] at h
          split at h
          · cases h
          · simp only [Option.some.injEq] at h
            subst h
            exact ⟨hop ho, numT_lt hm⟩
    · cases h
  | _ :: _ :: _ :: _ :: _, h => simp [exprT] at h

theorem relT_good {l : List Tok} {r : RelT} (h : relT l = some r) : GoodR r := by
  unfold relT at h
  split at h
  · cases h
  · rename_i e q he
    cases hx : exprT (l.takeWhile (fun t => !isEq t)) with
    | none => simp [hx] at h
    | some x =>
      cases hr : (splitT [44] q).mapM rangeT with
      | none => simp [hx, hr] at h
      | some rs =>
        simp only [hx, hr, Option.some.injEq] at h
        subst h
        exact exprT_good hx

theorem mapM_mem {α β : Type} {f : α → Option β} : ∀ {l : List α} {ys : List β}, l.mapM f = some ys → ∀ y, y ∈ ys → ∃ a, a ∈ l ∧ f a = some y
  | [], ys, h, y, hy => by simp at h; subst h; simp at hy
  | a :: l, ys, h, y, hy => by
    rw [List.mapM_cons] at h
    cases ha : f a with
    | none => simp [ha] at h
    | some b =>
      cases hl : l.mapM f with
      | none => simp [ha, hl] at h
      | some bs =>
        simp [ha, hl] at h
        subst h
        rcases List.mem_cons.1 hy with rfl | hy
        · exact ⟨a, by simp, ha⟩
        · obtain ⟨a', h1, h2⟩ := mapM_mem hl y hy
          exact ⟨a', by simp [h1], h2⟩

theorem ruleT_good {l : List Tok} {y : Nat × List (List RelT)} (h : ruleT l = some y) : ∀ a, a ∈ y.2 → ∀ r, r ∈ a → GoodR r := by
  unfold ruleT at h
  split at h
  · rename_i c d r'
    split at h
    · cases hc : catT c with
      | none => simp [hc] at h
      | some k =>
        cases ha : condT r' with
        | none => simp [hc, ha] at h
        | some al =>
          simp only [hc, ha] at h
          split at h
          · cases h
          · simp only [Option.some.injEq] at h
            subst h
            intro a hm r hr
            obtain ⟨t1, _, h1⟩ := mapM_mem ha a hm
            obtain ⟨t2, _, h2⟩ := mapM_mem h1 r hr
            exact relT_good h2
    · cases h
  · cases h

theorem rulesT_good {s : List UInt8} {l : List (Nat × List (List RelT))} (h : rulesT s = some l) : ∀ y, y ∈ l → ∀ a, a ∈ y.2 → ∀ r, r ∈ a → GoodR r := by
  unfold rulesT at h
  split at h
  · cases h
  · split at h
    · simp only [Option.some.injEq] at h; subst h; simp
    · unfold onlyU at h
      cases hm : (splitT [59] (toks s).1).mapM ruleT with
      | none => simp [hm] at h
      | some l' =>
        simp only [hm] at h
        split at h
        · simp only [Option.some.injEq] at h
          subst h
          intro y hy
          obtain ⟨t, _, ht⟩ := mapM_mem hm y hy
          exact ruleT_good ht
        · cases h

open Classical in
noncomputable def pickT (s : List UInt8) (x : OperT) : Int × Int := if 1024 < s.length then (0, 91) else match rulesT s with
  | none => (0, 90)
  | some l => if MayO x then ((firstH x l : Int), 0) else (0, 92)

theorem Pick_long (s i : ByteArray) (v z : Int) (f t : ByteArray) (e : Int) (w : World) (h : 1024 < s.size) : Calls Tryz.prog 13 #[.string s, opV i v z f t e] w fun e' w' => e' = .returned (.tuple #[.int .i64 0, .int .i64 91]) ∧ Below w.heap.size w w' := by
  have hmf : ∀ (fn : Fn) (first cap : Array Value) (w : World), (Instr.makeFunc fn first cap).run Tryz.prog w = .ok (.func fn first cap) w := fun _ _ _ _ => rfl
  have h' : 1024 < (s.size : Int) := by omega
  go_enter_defers Tryz.func13, Tryz.ntmps13
  go_wp2
  refine leaves_cons (f := 44) (args := #[.pointer (some ⟨w.heap.size + 1, 0, none⟩), .pointer (some ⟨w.heap.size + 1 + 1, 0, none⟩)]) (by simp) (by simp [go_sem]) ?_
  refine (idle_Pick ⟨w.heap.size + 1, 0, none⟩ ⟨w.heap.size + 1 + 1, 0, none⟩ _).mono ?_
  rintro e' u' w'' ⟨rfl, rfl, rfl⟩
  simp [Leaves, settle, results, Tryz.results13, go_sem]
  exact (((Below.refl _ _).alloc (Nat.le_refl _) _).alloc (by simp) _).alloc (by simp; omega) _

theorem Pick_no (s i : ByteArray) (v z : Int) (f t : ByteArray) (e : Int) (w : World) (h : s.size ≤ 1024) (he : Evs w) (hr : rulesT (bys s) = none) : Calls Tryz.prog 13 #[.string s, opV i v z f t e] w fun e' w' => e' = .returned (.tuple #[.int .i64 0, .int .i64 90]) ∧ Below w.heap.size w w' := by
  have hmf : ∀ (fn : Fn) (first cap : Array Value) (w : World), (Instr.makeFunc fn first cap).run Tryz.prog w = .ok (.func fn first cap) w := fun _ _ _ _ => rfl
  have h' : ¬ 1024 < (s.size : Int) := by omega
  have HB : Hid (Below w.heap.size w (((w.alloc (.cells #[.string i, .int .i64 v, .int .i64 z, .string f, .string t, .int .i64 e] 37)).alloc (.cells #[.int .i64 0] 3)).alloc (.cells #[.int .i64 0] 24))) := (((Below.refl _ _).alloc (Nat.le_refl _) _).alloc (by simp) _).alloc (by simp; omega) _
  have BX := hide (Blk.alloc (Blk.alloc (Blk.newAt w w.heap.size rfl #[.string i, .int .i64 v, .int .i64 z, .string f, .string t, .int .i64 e] 37) (.cells #[.int .i64 0] 3)) (.cells #[.int .i64 0] 24))
  have BC := hide (Blk.alloc (Blk.newAt (w.alloc (.cells #[.string i, .int .i64 v, .int .i64 z, .string f, .string t, .int .i64 e] 37)) (w.heap.size + 1) (by simp) #[.int .i64 0] 3) (.cells #[.int .i64 0] 24))
  have BE := hide (Blk.newAt ((w.alloc (.cells #[.string i, .int .i64 v, .int .i64 z, .string f, .string t, .int .i64 e] 37)).alloc (.cells #[.int .i64 0] 3)) (w.heap.size + 1 + 1) (by simp) #[.int .i64 0] 24)
  have RR := hide (readRules_any s (((w.alloc (.cells #[.string i, .int .i64 v, .int .i64 z, .string f, .string t, .int .i64 e] 37)).alloc (.cells #[.int .i64 0] 3)).alloc (.cells #[.int .i64 0] 24)) h (he.below HB.out))
  rw [hr] at RR
  clear h he hr
  go_enter_defers Tryz.func13, Tryz.ntmps13
  go_wp2_with fail
  refine RR.out.mono ?_
  rintro e' w1 ⟨hb, rfl⟩
  have BX1 := Blk.on BX hb
  have BC1 := Blk.on BC hb
  have BE1 := Blk.on BE hb
  have HB1 := hide (HB.out.trans (hb.mono HB.out.size))
  clear hb
  have cc0 := BC1.out.cell 0
  have ce0 := BE1.out.cell 0
  simp only [List.getElem?_toArray, List.getElem?_cons_zero] at cc0 ce0
  have fc0 := BC1.out.free 0
  have fe0 := BE1.out.free 0
  clear RR BX BC BE HB
  go_wp2
  refine leaves_cons (f := 44) (args := #[.pointer (some ⟨w.heap.size + 1, 0, none⟩), .pointer (some ⟨w.heap.size + 1 + 1, 0, none⟩)]) (by simp) (by simp [go_sem]) ?_
  refine (catch_Pick ⟨w.heap.size + 1, 0, none⟩ ⟨w.heap.size + 1 + 1, 0, none⟩ _ _ _ _ [] _ (by simp) cc0 fc0 ce0 fe0).mono ?_
  rintro e' u' w'' ⟨rfl, rfl, rfl⟩
  have p1 := blk_setC BC1.out 0 (.int .i64 0)
  have p2 := Blk.other p1 (a := ⟨w.heap.size + 1 + 1, 0, none⟩) (by simp) (.int .i64 90)
  have p3 := blk_setC (Blk.other BE1.out (a := ⟨w.heap.size + 1, 0, none⟩) (by simp) (.int .i64 0)) 0 (.int .i64 90)
  have q2 := p2.cell 0
  have q3 := p3.cell 0
  simp at q2 q3
  simp [Leaves, settle, results, Tryz.results13, go_sem, q2, q3]
  exact (HB1.out.setCell (p := ⟨w.heap.size + 1, 0, none⟩) (by simp) _).setCell (p := ⟨w.heap.size + 1 + 1, 0, none⟩) (by simp; omega) _

theorem Pick_may (s i : ByteArray) (v z : Int) (f t : ByteArray) (e : Int) (w : World) (h : s.size ≤ 1024) (he : Evs w) (l : List (Nat × List (List RelT))) (hr : rulesT (bys s) = some l) (hm : ¬ MayO ⟨bys i, v, z, bys f, bys t, e⟩) : Calls Tryz.prog 13 #[.string s, opV i v z f t e] w fun e' w' => e' = .returned (.tuple #[.int .i64 0, .int .i64 92]) ∧ Below w.heap.size w w' := by
  have hmf : ∀ (fn : Fn) (first cap : Array Value) (w : World), (Instr.makeFunc fn first cap).run Tryz.prog w = .ok (.func fn first cap) w := fun _ _ _ _ => rfl
  have h' : ¬ 1024 < (s.size : Int) := by omega
  have HB : Hid (Below w.heap.size w (((w.alloc (.cells #[.string i, .int .i64 v, .int .i64 z, .string f, .string t, .int .i64 e] 37)).alloc (.cells #[.int .i64 0] 3)).alloc (.cells #[.int .i64 0] 24))) := (((Below.refl _ _).alloc (Nat.le_refl _) _).alloc (by simp) _).alloc (by simp; omega) _
  have BX := hide (Blk.alloc (Blk.alloc (Blk.newAt w w.heap.size rfl #[.string i, .int .i64 v, .int .i64 z, .string f, .string t, .int .i64 e] 37) (.cells #[.int .i64 0] 3)) (.cells #[.int .i64 0] 24))
  have BC := hide (Blk.alloc (Blk.newAt (w.alloc (.cells #[.string i, .int .i64 v, .int .i64 z, .string f, .string t, .int .i64 e] 37)) (w.heap.size + 1) (by simp) #[.int .i64 0] 3) (.cells #[.int .i64 0] 24))
  have BE := hide (Blk.newAt ((w.alloc (.cells #[.string i, .int .i64 v, .int .i64 z, .string f, .string t, .int .i64 e] 37)).alloc (.cells #[.int .i64 0] 3)) (w.heap.size + 1 + 1) (by simp) #[.int .i64 0] 24)
  have RR := hide (readRules_any s (((w.alloc (.cells #[.string i, .int .i64 v, .int .i64 z, .string f, .string t, .int .i64 e] 37)).alloc (.cells #[.int .i64 0] 3)).alloc (.cells #[.int .i64 0] 24)) h (he.below HB.out))
  rw [hr] at RR
  have MM := hide (fun X => May_F i v z f t e X hm)
  clear h he hr hm
  go_enter_defers Tryz.func13, Tryz.ntmps13
  go_wp2_with fail
  refine RR.out.mono ?_
  rintro e' w1 ⟨hb, va, rfl, _⟩
  have BX1 := Blk.on BX hb
  have BC1 := Blk.on BC hb
  have BE1 := Blk.on BE hb
  have HB1 := hide (HB.out.trans (hb.mono HB.out.size))
  clear hb
  obtain ⟨o0, o1, o2, o3, o4, o5⟩ := BX1.out.six
  clear RR BX BC BE HB
  go_wp2_with fail
  refine (MM.out _).mono ?_
  rintro e' w2 ⟨rfl, hb⟩
  have BX2 := Blk.on BX1 hb
  have BC2 := Blk.on BC1 hb
  have BE2 := Blk.on BE1 hb
  have HB2 := hide (HB1.out.trans (hb.mono HB1.out.size))
  clear hb
  have cc0 := BC2.out.cell 0
  have ce0 := BE2.out.cell 0
  simp only [List.getElem?_toArray, List.getElem?_cons_zero] at cc0 ce0
  have fc0 := BC2.out.free 0
  have fe0 := BE2.out.free 0
  clear MM BX1 BC1 BE1 HB1 o0 o1 o2 o3 o4 o5
  go_wp2
  refine leaves_cons (f := 44) (args := #[.pointer (some ⟨w.heap.size + 1, 0, none⟩), .pointer (some ⟨w.heap.size + 1 + 1, 0, none⟩)]) (by simp) (by simp [go_sem]) ?_
  refine (idle_Pick ⟨w.heap.size + 1, 0, none⟩ ⟨w.heap.size + 1 + 1, 0, none⟩ _).mono ?_
  rintro e' u' w'' ⟨rfl, rfl, rfl⟩
  have p1 := blk_setC BC2.out 0 (.int .i64 0)
  have p2 := Blk.other p1 (a := ⟨w.heap.size + 1 + 1, 0, none⟩) (by simp) (.int .i64 92)
  have p3 := blk_setC (Blk.other BE2.out (a := ⟨w.heap.size + 1, 0, none⟩) (by simp) (.int .i64 0)) 0 (.int .i64 92)
  have q2 := p2.cell 0
  have q3 := p3.cell 0
  simp at q2 q3
  simp [Leaves, settle, results, Tryz.results13, go_sem, q2, q3]
  exact (HB2.out.setCell (p := ⟨w.heap.size + 1, 0, none⟩) (by simp) _).setCell (p := ⟨w.heap.size + 1 + 1, 0, none⟩) (by simp; omega) _

theorem Pick_yes (s i : ByteArray) (v z : Int) (f t : ByteArray) (e : Int) (w : World) (h : s.size ≤ 1024) (he : Evs w) (l : List (Nat × List (List RelT))) (hr : rulesT (bys s) = some l) (hm : MayO ⟨bys i, v, z, bys f, bys t, e⟩) : Calls Tryz.prog 13 #[.string s, opV i v z f t e] w fun e' w' => e' = .returned (.tuple #[.int .i64 (firstH ⟨bys i, v, z, bys f, bys t, e⟩ l : Int), .int .i64 0]) ∧ Below w.heap.size w w' := by
  have hmf : ∀ (fn : Fn) (first cap : Array Value) (w : World), (Instr.makeFunc fn first cap).run Tryz.prog w = .ok (.func fn first cap) w := fun _ _ _ _ => rfl
  have h' : ¬ 1024 < (s.size : Int) := by omega
  have HB : Hid (Below w.heap.size w (((w.alloc (.cells #[.string i, .int .i64 v, .int .i64 z, .string f, .string t, .int .i64 e] 37)).alloc (.cells #[.int .i64 0] 3)).alloc (.cells #[.int .i64 0] 24))) := (((Below.refl _ _).alloc (Nat.le_refl _) _).alloc (by simp) _).alloc (by simp; omega) _
  have BX := hide (Blk.alloc (Blk.alloc (Blk.newAt w w.heap.size rfl #[.string i, .int .i64 v, .int .i64 z, .string f, .string t, .int .i64 e] 37) (.cells #[.int .i64 0] 3)) (.cells #[.int .i64 0] 24))
  have BC := hide (Blk.alloc (Blk.newAt (w.alloc (.cells #[.string i, .int .i64 v, .int .i64 z, .string f, .string t, .int .i64 e] 37)) (w.heap.size + 1) (by simp) #[.int .i64 0] 3) (.cells #[.int .i64 0] 24))
  have BE := hide (Blk.newAt ((w.alloc (.cells #[.string i, .int .i64 v, .int .i64 z, .string f, .string t, .int .i64 e] 37)).alloc (.cells #[.int .i64 0] 3)) (w.heap.size + 1 + 1) (by simp) #[.int .i64 0] 24)
  have RR := hide (readRules_any s (((w.alloc (.cells #[.string i, .int .i64 v, .int .i64 z, .string f, .string t, .int .i64 e] 37)).alloc (.cells #[.int .i64 0] 3)).alloc (.cells #[.int .i64 0] 24)) h (he.below HB.out))
  rw [hr] at RR
  have HGD := hide (rulesT_good hr)
  obtain ⟨R, hR⟩ : ∃ R, R = firstH ⟨bys i, v, z, bys f, bys t, e⟩ l := ⟨_, rfl⟩
  rw [← hR]
  have HRR := hide hR
  clear hR
  have MM := hide (fun X => May_T i v z f t e X hm)
  have HM := hide hm
  clear h he hr hm
  go_enter_defers Tryz.func13, Tryz.ntmps13
  go_wp2_with fail
  refine RR.out.mono ?_
  rintro e' w1 ⟨hb, va, rfl, hls⟩
  have BX1 := Blk.on BX hb
  have BC1 := Blk.on BC hb
  have BE1 := Blk.on BE hb
  have HB1 := hide (HB.out.trans (hb.mono HB.out.size))
  clear hb
  obtain ⟨sa, sn, sc, rfl⟩ := Lst.slice hls
  obtain ⟨o0, o1, o2, o3, o4, o5⟩ := BX1.out.six
  have HLS := hide hls
  clear RR BX BC BE HB hls
  go_wp2_with fail
  refine (MM.out _).mono ?_
  rintro e' w2 ⟨rfl, hb⟩
  have HLS2 := hide (HLS.out.kt (S := fun _ => True) (KT.of_below hb) trivial (ElRule.kt (S := fun _ => True) trivial trivial trivial _ _ (KT.of_below hb)))
  have BX2 := Blk.on BX1 hb
  have BC2 := Blk.on BC1 hb
  have BE2 := Blk.on BE1 hb
  have HB2 := hide (HB1.out.trans (hb.mono HB1.out.size))
  clear hb
  clear MM BX1 BC1 BE1 HB1 o0 o1 o2 o3 o4 o5 HLS
  obtain ⟨o0, o1, o2, o3, o4, o5⟩ := BX2.out.six
  have FF := hide (first_any _ l sa sn sc i v z f t e w2 HGD.out HM.out HLS2.out)
  rw [← HRR.out] at FF
  clear HGD HM HLS2 HRR
  go_wp2_with fail
  refine FF.out.mono ?_
  rintro e' w3 ⟨rfl, hb⟩
  have BX3 := Blk.on BX2 hb
  have BC3 := Blk.on BC2 hb
  have BE3 := Blk.on BE2 hb
  have HB3 := hide (HB2.out.trans (hb.mono HB2.out.size))
  clear hb
  have cc0 := BC3.out.cell 0
  have ce0 := BE3.out.cell 0
  simp only [List.getElem?_toArray, List.getElem?_cons_zero] at cc0 ce0
  have fc0 := BC3.out.free 0
  have fe0 := BE3.out.free 0
  clear FF BX2 BC2 BE2 HB2 o0 o1 o2 o3 o4 o5
  go_wp2
  refine leaves_cons (f := 44) (args := #[.pointer (some ⟨w.heap.size + 1, 0, none⟩), .pointer (some ⟨w.heap.size + 1 + 1, 0, none⟩)]) (by simp) (by simp [go_sem]) ?_
  refine (idle_Pick ⟨w.heap.size + 1, 0, none⟩ ⟨w.heap.size + 1 + 1, 0, none⟩ _).mono ?_
  rintro e' u' w'' ⟨rfl, rfl, rfl⟩
  have p1 := blk_setC BC3.out 0 (.int .i64 (R : Int))
  have p2 := Blk.other p1 (a := ⟨w.heap.size + 1 + 1, 0, none⟩) (by simp) (.int .i64 0)
  have p3 := blk_setC (Blk.other BE3.out (a := ⟨w.heap.size + 1, 0, none⟩) (by simp) (.int .i64 (R : Int))) 0 (.int .i64 0)
  have q2 := p2.cell 0
  have q3 := p3.cell 0
  simp at q2 q3
  simp [Leaves, settle, results, Tryz.results13, go_sem, q2, q3]
  exact (HB3.out.setCell (p := ⟨w.heap.size + 1, 0, none⟩) (by simp) _).setCell (p := ⟨w.heap.size + 1 + 1, 0, none⟩) (by simp; omega) _

theorem Pick_any (s i : ByteArray) (v z : Int) (f t : ByteArray) (e : Int) (w : World) (he : Evs w) : Calls Tryz.prog 13 #[.string s, opV i v z f t e] w fun e' w' => e' = .returned (.tuple #[.int .i64 (pickT (bys s) ⟨bys i, v, z, bys f, bys t, e⟩).1, .int .i64 (pickT (bys s) ⟨bys i, v, z, bys f, bys t, e⟩).2]) ∧ Below w.heap.size w w' := by
  unfold pickT
  rw [bys_len]
  by_cases h : 1024 < s.size
  · rw [if_pos h]; exact Pick_long s i v z f t e w h
  · rw [if_neg h]
    cases hr : rulesT (bys s) with
    | none => exact Pick_no s i v z f t e w (by omega) he hr
    | some l =>
      dsimp only
      by_cases hm : MayO ⟨bys i, v, z, bys f, bys t, e⟩
      · rw [if_pos hm]; exact Pick_yes s i v z f t e w (by omega) he l hr hm
      · rw [if_neg hm]; exact Pick_may s i v z f t e w (by omega) he l hr hm

end Go.Proofs.YtkbciljfjijclaaGreatDoor
