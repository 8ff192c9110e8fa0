/-
  Plain symbols; what the laws' latin and awake answer.
  Plain mathematics: limbs of 64 bits as digits of 16 bits, and back.
  What the reference's In does: limbs, as digits of 16 bits.
-/
import Derived.Test.YtionbkmbhhlmjaaGreatDoorXB16
import Derived.Lib.EndianMore
import Derived.Test.YtionbkmbhhlmjaaGreatDoorXB2
import Derived.Test.YtionbkmbhhlmjaaGreatDoorXB6
import Derived.Test.YtionbkmbhhlmjaaGreatDoorXRTrim
import Derived.Test.YtionbkmbhhlmjaaGreatDoorXUint
import Derived.Laws.Bits64b
namespace Go.Proofs.YtionbkmbhhlmjaaGreatDoor
open Go.RowKit

def lat : Sy := { d0 := ⟨#[48]⟩, d1 := ⟨#[49]⟩, d2 := ⟨#[50]⟩, d3 := ⟨#[51]⟩, d4 := ⟨#[52]⟩, d5 := ⟨#[53]⟩, d6 := ⟨#[54]⟩, d7 := ⟨#[55]⟩, d8 := ⟨#[56]⟩, d9 := ⟨#[57]⟩, dec := ⟨#[46]⟩, grp := ⟨#[44]⟩, min := ⟨#[45]⟩, plu := ⟨#[43]⟩, pct := ⟨#[]⟩, pml := ⟨#[]⟩, exp := ⟨#[69]⟩, inf := ⟨#[105, 110, 102]⟩, nan := ⟨#[110, 97, 110]⟩, app := ⟨#[]⟩, rng := ⟨#[]⟩ }
def latC : Array Value := #[.string ⟨#[48]⟩, .string ⟨#[49]⟩, .string ⟨#[50]⟩, .string ⟨#[51]⟩, .string ⟨#[52]⟩, .string ⟨#[53]⟩, .string ⟨#[54]⟩, .string ⟨#[55]⟩, .string ⟨#[56]⟩, .string ⟨#[57]⟩, .string ⟨#[46]⟩, .string ⟨#[44]⟩, .string ⟨#[45]⟩, .string ⟨#[43]⟩, .string ⟨#[]⟩, .string ⟨#[]⟩, .string ⟨#[69]⟩, .string ⟨#[105, 110, 102]⟩, .string ⟨#[110, 97, 110]⟩, .string ⟨#[]⟩, .string ⟨#[]⟩]
theorem results_sym {fn : Func} {a : Tmp} (h : fn.results = #[.cell a 26]) (tmps : Array Value) (H : Nat) (cs : Array Value) (w : World) (ht : tmps.getD a undef = .pointer (some ⟨H, 0, none⟩)) (hl : cs.toList.length = 21) (hp : w.rangeAt H 0 cs.toList) :
    (results fn tmps).run Tryz.prog w = .ok (.agg cs) w := by
  have hr := run_loadVar_mid (P := Tryz.prog) w H 0 26 cs.toList _ hp Tryz.underlying26 rfl (by rw [hl]; exact symInfo)
  rw [Array.toArray_toList] at hr
  rw [Array.getD_eq_getD_getElem?] at ht
  simp [results, h, ht, asAddr, hr]

theorem wpList_build {P : Program} {ops : Array Oper} {rest : List Oper} {op : Oper} {a : Act} {w : World} {Q : Exit → Act → World → Prop} (hgd : op.guard = none) (t : TypeId) (parts : Array (Nat × Operand)) (ho : op.op = .build t parts)
    (v : Value) (hv : ∀ w, (Instr.build t (parts.map fun (i, x) => (i, a.eval x))).run P w = .ok v w) (h : wpList P ops Q rest (a.put op.dst v) w) : wpList P ops Q (op :: rest) a w :=
  wpList_plain hgd fun K hK => by
    have hk := hK _ _ h
    unfold Oper.wp execOp
    simp only [ho, hv, Sem.run_bind, Result.andThen_ok]
    exact hk

theorem wpList_alloc {P : Program} {ops : Array Oper} {rest : List Oper} {op : Oper} {a : Act} {w w' : World} {Q : Exit → Act → World → Prop} (hgd : op.guard = none) (t : TypeId) (ho : op.op = .alloc t)
    (v : Value) (hv : (Instr.alloc t true (.tuple #[])).run P w = .ok v w') (h : wpList P ops Q rest (a.put op.dst v) w') : wpList P ops Q (op :: rest) a w :=
  wpList_plain hgd fun K hK => by
    have hk := hK _ _ h
    unfold Oper.wp execOp
    simp only [ho, hv, Sem.run_bind, Result.andThen_ok]
    exact hk

set_option maxRecDepth 100000 in
set_option maxHeartbeats 4000000 in
theorem latin_any (w : World) : Calls Tryz.prog 14 #[] w fun e w' => e = .returned (symV lat) ∧ Below w.heap.size w w' := by
  have ZB : Hid (∀ z : Array Value, z.size = 21 → (w.alloc (.cells z 26)).there w.heap.size 0 latC.size) := hide (fun z hz j hj => by
    have q := Blk.newAt w w.heap.size rfl z 26
    have hj' : j < 21 := hj
    refine ⟨?_, q.free _⟩
    rw [Nat.zero_add, q.cell j, Array.getElem?_eq_getElem (by omega)]
    rfl)
  have ONE : Hid (latC.all (·.oneCell') = true) := hide (by kernel_rfl)
  have SI : (Tryz.prog.info? 26).map (·.size) = some latC.size := symInfo
  obtain ⟨Z, hZ⟩ : ∃ Z : Array Value, Z = (Array.replicate 21 (Value.string ⟨#[]⟩)) := ⟨_, rfl⟩
  have AL1 : ∀ w, (Instr.alloc 26 true (.tuple #[])).run Tryz.prog w = .ok (.pointer (some ⟨w.heap.size, 0, none⟩)) (w.alloc (.cells Z 26)) := fun w => by rw [hZ]; kernel_rfl
  have hZs : Z.size = 21 := by rw [hZ]; rfl
  have HZ := hide hZs
  clear hZ hZs
  go_enter Tryz.func14, Tryz.ntmps14
  go_wp2_with (first
    | (refine wpList_alloc rfl 26 rfl _ (AL1 w) ?_)
    | (refine wpList_build rfl 24 _ rfl (.agg #[.string ⟨#[48]⟩, .string ⟨#[49]⟩, .string ⟨#[50]⟩, .string ⟨#[51]⟩, .string ⟨#[52]⟩, .string ⟨#[53]⟩, .string ⟨#[54]⟩, .string ⟨#[55]⟩, .string ⟨#[56]⟩, .string ⟨#[57]⟩]) (fun w => by kernel_rfl) ?_)
    | (refine wpList_build rfl 26 _ rfl (.agg latC) (fun w => by kernel_rfl) ?_)
    | (refine wpList_store_mid rfl 26 _ _ rfl w.heap.size 0 latC rfl rfl (ZB.out Z HZ.out) SI ONE.out ?_; generalize hW3 : World.setCells _ w.heap.size 0 _ = W3))
  have R3 := World.rangeAt_setCells_same (w.alloc (.cells Z 26)) w.heap.size 0 latC.toList (ZB.out Z HZ.out)
  have B3 : Below w.heap.size w ((w.alloc (.cells Z 26)).setCells w.heap.size 0 latC.toList) := ((Below.refl _ _).alloc (Nat.le_refl _) _).trans (Lib.below_setCells_w (Nat.le_refl _) _ _ _)
  rw [hW3] at R3 B3
  refine bodyPost_ret (results_sym rfl _ w.heap.size latC _ rfl rfl R3) rfl ?_
  exact ⟨rfl, B3⟩

theorem digB_all {l : List UInt8} (h : l.all (fun c => decide (48 ≤ c.toNat) && decide (c.toNat ≤ 57)) = true) : DigB l := fun k hk => by
  have q := List.all_eq_true.1 h l[k] (List.getElem_mem hk)
  rw [Bool.and_eq_true, decide_eq_true_eq, decide_eq_true_eq] at q
  have e : byt l k = l[k].toNat := by unfold byt; rw [List.getElem?_eq_getElem hk]; rfl
  rw [e]
  exact q

theorem pcsP_ex : pcsP ⟨0, false, [49, 50, 51, 52, 53, 54, 55], [56, 57], 0, false⟩ lat 3 2 1 false = [⟨⟨#[49, 50]⟩, 2⟩, ⟨⟨#[44]⟩, 3⟩, ⟨⟨#[51, 52]⟩, 2⟩, ⟨⟨#[44]⟩, 3⟩, ⟨⟨#[53, 54, 55]⟩, 2⟩, ⟨⟨#[46]⟩, 4⟩, ⟨⟨#[56, 57]⟩, 5⟩] := by
  have h : MayS ⟨0, false, [49, 50, 51, 52, 53, 54, 55], [56, 57], 0, false⟩ := ⟨⟨by decide, by decide⟩, .inl ⟨rfl, .inl (by decide), ⟨by decide, digB_all (by decide)⟩, ⟨by decide, digB_all (by decide)⟩⟩⟩
  exact (pcsP_fin lat 3 2 1 false h rfl).trans (by kernel_rfl)
theorem expP_ex : expP (-12) 3 false lat = [⟨⟨#[69]⟩, 6⟩, ⟨⟨#[45]⟩, 7⟩, ⟨⟨#[48, 49, 50]⟩, 8⟩] := by kernel_rfl

set_option maxRecDepth 100000 in
set_option maxHeartbeats 8000000 in
theorem awake16_any (w : World) (htab : Tab w) : Calls Tryz.prog 11 #[] w fun e w' => e = .returned (.bool true) ∧ Below w.heap.size w w' := by
  have HT := hide htab
  have HL := hide (fun X => latin_any X)
  have HP : Hid (∀ X, Tab X → Calls Tryz.prog 18 #[.agg #[.int .i64 0, .bool false, .string ⟨#[49, 50, 51, 52, 53, 54, 55]⟩, .string ⟨#[56, 57]⟩, .int .i64 0, .bool false], .agg latC, .int .i64 3, .int .i64 2, .int .i64 1, .bool false] X fun e w' => (∃ v, e = .returned v ∧ w'.ownsRow X.heap.size 34 2 v 7 (cellsP [⟨⟨#[49, 50]⟩, 2⟩, ⟨⟨#[44]⟩, 3⟩, ⟨⟨#[51, 52]⟩, 2⟩, ⟨⟨#[44]⟩, 3⟩, ⟨⟨#[53, 54, 55]⟩, 2⟩, ⟨⟨#[46]⟩, 4⟩, ⟨⟨#[56, 57]⟩, 5⟩])) ∧ Below X.heap.size X w') := hide (fun X hX => by
    have q := dPieces_any 0 false ⟨#[49, 50, 51, 52, 53, 54, 55]⟩ ⟨#[56, 57]⟩ 0 false lat 3 2 1 false X hX (by decide) (by decide) (of_decide_eq_true (by kernel_rfl)) (of_decide_eq_true (by kernel_rfl))
    rw [show pcsP ⟨0, false, bys ⟨#[49, 50, 51, 52, 53, 54, 55]⟩, bys ⟨#[56, 57]⟩, 0, false⟩ lat 3 2 1 false = [⟨⟨#[49, 50]⟩, 2⟩, ⟨⟨#[44]⟩, 3⟩, ⟨⟨#[51, 52]⟩, 2⟩, ⟨⟨#[44]⟩, 3⟩, ⟨⟨#[53, 54, 55]⟩, 2⟩, ⟨⟨#[46]⟩, 4⟩, ⟨⟨#[56, 57]⟩, 5⟩] from pcsP_ex] at q
    exact q)
  have HE : Hid (∀ X, Tab X → Calls Tryz.prog 12 #[.int .i64 (-12), .int .i64 3, .bool false, .agg latC] X fun e w' => (∃ v, e = .returned v ∧ w'.ownsRow X.heap.size 34 2 v 3 (cellsP [⟨⟨#[69]⟩, 6⟩, ⟨⟨#[45]⟩, 7⟩, ⟨⟨#[48, 49, 50]⟩, 8⟩])) ∧ Below X.heap.size X w') := hide (fun X hX => by
    have q := exponent_any (-12) 3 false lat X hX (by decide) (by decide) (by decide) (of_decide_eq_true (by kernel_rfl))
    rw [expP_ex] at q
    exact q)
  have EV : symV lat = .agg latC := rfl
  rw [EV] at HL
  clear htab EV
  go_enter Tryz.func11, Tryz.ntmps11
  go_wp2_with fail
  refine (HL.out _).mono ?_
  rintro e w1 ⟨rfl, hb1⟩
  have HB1 := hide hb1
  have HP1 := hide (HP.out w1 (HT.out.below hb1))
  clear hb1 HP
  go_wp2_with fail
  refine HP1.out.mono ?_
  rintro e w2 ⟨⟨v, rfl, ho⟩, hb2⟩
  obtain ⟨g, cg, rfl, _, _, hcg⟩ := ownD_some ho (by decide)
  have O2 := hide ho
  have HB2 := hide (HB1.out.trans (hb2.mono HB1.out.size))
  clear ho hb2 HP1 HB1
  go_wp2_with fail
  refine (HL.out _).mono ?_
  rintro e w3 ⟨rfl, hb3⟩
  have O3 := hide (ownD_below O2.out hb3)
  have HB3 := hide (HB2.out.trans (hb3.mono HB2.out.size))
  have HE1 := hide (HE.out w3 (HT.out.below HB3.out))
  clear hb3 O2 HB2 HE HL
  go_wp2_with fail
  refine HE1.out.mono ?_
  rintro e w4 ⟨⟨v, rfl, ho⟩, hb4⟩
  obtain ⟨h, ch, rfl, _, _, hch⟩ := ownD_some ho (by decide)
  have O4 := hide (ownD_below O3.out hb4)
  have M4 := hide ho
  have HB4 := hide (HB3.out.trans (hb4.mono HB3.out.size))
  clear ho hb4 HE1 O3 HB3 HT
  have a0 : w4.cell? ⟨g, 0, none⟩ = some (.string ⟨#[49, 50]⟩) := O4.out.cellAt 0 (by decide)
  have a1 : w4.cell? ⟨g, 1, none⟩ = some (.int .i64 2) := O4.out.cellAt 1 (by decide)
  have a2 : w4.cell? ⟨g, 2, none⟩ = some (.string ⟨#[44]⟩) := O4.out.cellAt 2 (by decide)
  have a3 : w4.cell? ⟨g, 3, none⟩ = some (.int .i64 3) := O4.out.cellAt 3 (by decide)
  have a8 : w4.cell? ⟨g, 8, none⟩ = some (.string ⟨#[53, 54, 55]⟩) := O4.out.cellAt 8 (by decide)
  have a9 : w4.cell? ⟨g, 9, none⟩ = some (.int .i64 2) := O4.out.cellAt 9 (by decide)
  have a10 : w4.cell? ⟨g, 10, none⟩ = some (.string ⟨#[46]⟩) := O4.out.cellAt 10 (by decide)
  have a11 : w4.cell? ⟨g, 11, none⟩ = some (.int .i64 4) := O4.out.cellAt 11 (by decide)
  have a12 : w4.cell? ⟨g, 12, none⟩ = some (.string ⟨#[56, 57]⟩) := O4.out.cellAt 12 (by decide)
  have a13 : w4.cell? ⟨g, 13, none⟩ = some (.int .i64 5) := O4.out.cellAt 13 (by decide)
  have b0 : w4.cell? ⟨h, 0, none⟩ = some (.string ⟨#[69]⟩) := M4.out.cellAt 0 (by decide)
  have b1 : w4.cell? ⟨h, 1, none⟩ = some (.int .i64 6) := M4.out.cellAt 1 (by decide)
  have b2 : w4.cell? ⟨h, 2, none⟩ = some (.string ⟨#[45]⟩) := M4.out.cellAt 2 (by decide)
  have b3 : w4.cell? ⟨h, 3, none⟩ = some (.int .i64 7) := M4.out.cellAt 3 (by decide)
  have b4 : w4.cell? ⟨h, 4, none⟩ = some (.string ⟨#[48, 49, 50]⟩) := M4.out.cellAt 4 (by decide)
  have b5 : w4.cell? ⟨h, 5, none⟩ = some (.int .i64 8) := M4.out.cellAt 5 (by decide)
  have EQ : ∀ (x : ByteArray) (n : Int) (W : World), (binOp .eql 34 (.agg #[.string x, .int .i64 n]) (.agg #[.string x, .int .i64 n])).run Tryz.prog W = .ok (.bool true) W := fun x n W => by have q := pc_eql ⟨x, n⟩ ⟨x, n⟩ W; rwa [decide_eq_true rfl] at q
  clear O4 M4
  go_wp2
  go_ret
  exact ⟨rfl, HB4.out⟩

end Go.Proofs.YtionbkmbhhlmjaaGreatDoor

namespace Go.Proofs.YtionbkmbhhlmjaaGreatDoor

def d16 (xs : List Nat) (j : Nat) : Nat := dg xs (j / 4) / 65536 ^ (j % 4) % 65536

def digs (xs : List Nat) (n : Nat) : List Nat := (List.range n).map (d16 xs)

theorem length_digs (xs : List Nat) (n : Nat) : (digs xs n).length = n := by simp [digs]

theorem digs_succ (xs : List Nat) (n : Nat) : digs xs (n + 1) = digs xs n ++ [d16 xs n] := by simp [digs, List.range_succ]

theorem dg_digs (xs : List Nat) (n j : Nat) (h : j < n) : dg (digs xs n) j = d16 xs j := by
  simp [dg, digs, h]

theorem d16_lt (xs : List Nat) (j : Nat) : d16 xs j < 65536 := Nat.mod_lt _ (by omega)

theorem digs_ok (xs : List Nat) (n : Nat) : Ok 65536 (digs xs n) := by
  intro j
  by_cases h : j < n
  · rw [dg_digs _ _ _ h]; exact d16_lt _ _
  · rw [dg_out (by rw [length_digs]; omega)]; omega

theorem split4 (x : Nat) (hx : x < 18446744073709551616) : x % 65536 + (x / 65536 % 65536) * 65536 + (x / 4294967296 % 65536) * 4294967296 + (x / 281474976710656 % 65536) * 281474976710656 = x := by
  omega

theorem V_digs (B : Nat) (hB : B = 65536 ^ 4) (xs : List Nat) (h : ∀ i, dg xs i < 18446744073709551616) : ∀ m, V 65536 (d16 xs) (4 * m) = V B (dg xs) m
  | 0 => rfl
  | m + 1 => by
    have ih := V_digs B hB xs h m
    rw [show 4 * (m + 1) = 4 * m + 1 + 1 + 1 + 1 by omega]
    simp only [V]
    rw [ih]
    have e0 : d16 xs (4 * m) = dg xs m % 65536 := by
      unfold d16; rw [show 4 * m / 4 = m by omega, show 4 * m % 4 = 0 by omega]; simp
    have e1 : d16 xs (4 * m + 1) = dg xs m / 65536 % 65536 := by
      unfold d16; rw [show (4 * m + 1) / 4 = m by omega, show (4 * m + 1) % 4 = 1 by omega, Nat.pow_one]
    have e2 : d16 xs (4 * m + 1 + 1) = dg xs m / 4294967296 % 65536 := by
      unfold d16; rw [show (4 * m + 1 + 1) / 4 = m by omega, show (4 * m + 1 + 1) % 4 = 2 by omega]
    have e3 : d16 xs (4 * m + 1 + 1 + 1) = dg xs m / 281474976710656 % 65536 := by
      unfold d16; rw [show (4 * m + 1 + 1 + 1) / 4 = m by omega, show (4 * m + 1 + 1 + 1) % 4 = 3 by omega]
    rw [e0, e1, e2, e3]
    have hp : 65536 ^ (4 * m) = B ^ m := by rw [hB, Nat.pow_mul]
    have q1 : 65536 ^ (4 * m + 1) = B ^ m * 65536 := by rw [Nat.pow_succ, hp]
    have q2 : 65536 ^ (4 * m + 1 + 1) = B ^ m * 4294967296 := by rw [Nat.pow_succ, q1, Nat.mul_assoc]
    have q3 : 65536 ^ (4 * m + 1 + 1 + 1) = B ^ m * 281474976710656 := by rw [Nat.pow_succ, q2, Nat.mul_assoc]
    rw [hp, q1, q2, q3]
    have hs := split4 (dg xs m) (h m)
    have mc : ∀ a P c : Nat, a * (P * c) = a * c * P := fun a P c => by rw [Nat.mul_comm P c, Nat.mul_assoc]
    rw [mc, mc, mc]
    generalize B ^ m = P at *
    have e4 := congrArg (· * P) hs
    simp only [Nat.add_mul] at e4
    omega

end Go.Proofs.YtionbkmbhhlmjaaGreatDoor

namespace Go.Proofs.YtionbkmbhhlmjaaGreatDoor
open Go.RowKit

def RPost (w : World) (m n : Nat) (e : Ending) (w' : World) : Prop :=
  ∃ ao cap ys, e = .returned (.slice ao ys.length cap) ∧ ys.length ≤ cap ∧ At .u32 w' ao ys ∧ Is 65536 ys n ∧ ys.length ≤ m ∧ Below w.heap.size w w'

def Grows (w wr : World) (v : Value) (ys : List Nat) : Prop := Below w.heap.size w wr ∧ wr.ownsRow w.heap.size 96 1 v ys.length (vals .u32 ys)

theorem Grows.at {w wr : World} {v : Value} {ys : List Nat} (h : Grows w wr v ys) : ∃ ao cap, v = .slice ao ys.length cap ∧ ys.length ≤ cap ∧ At .u32 wr ao ys := by
  obtain ⟨hb, hl, ho⟩ := h
  rcases ho with ⟨rfl, h0⟩ | ⟨g, cap, cur, rfl, hg, hh, hn, _, hs, ht⟩
  · obtain rfl : ys = [] := List.length_eq_zero_iff.1 h0
    exact ⟨none, 0, rfl, Nat.le_refl _, At.nil _ _ _⟩
  · refine ⟨_, cap, rfl, hn, .inr ⟨g, 0, rfl, lt_of_block hh, fun i hi => ?_⟩⟩
    simp only [World.cell?, hh]
    have hc : cur[i]? = (vals .u32 ys)[i]? := by
      rw [← ht, List.getElem?_take_of_lt (by omega), Array.getElem?_toList]
    simp only [Option.isSome_none, Bool.false_eq_true, if_false, Nat.zero_add, hc]
    simp [vals, hi]

theorem Grows.step {w wr w1 : World} {v v' : Value} {ys : List Nat} {d : Nat} (o : Obj) (h : Grows w wr v ys) (ho : w1.ownsRow w.heap.size 96 1 v' (ys.length + 1) (vals .u32 ys ++ [.int .u32 (d : Int)])) (hg : (wr.alloc o).grownBy w1 v.ownBlock) :
    Grows w w1 v' (ys ++ [d]) := by
  have hb := h.1.alloc (h.1.size) o
  refine ⟨hb.grown hg hb.size ?_, ?_⟩
  · intro k hk
    rcases h.2.2 with ⟨rfl, _⟩ | ⟨g, cap, cur, rfl, hgb, _⟩
    · simp [Value.ownBlock] at hk
    · simp [Value.ownBlock] at hk; omega
  · rw [List.length_append]
    have : vals .u32 (ys ++ [d]) = vals .u32 ys ++ [.int .u32 (d : Int)] := by simp [vals]
    rw [this]; exact ho

theorem and16 (a : Nat) (ha : a < B64) : bits .and .u64 (a : Int) 65535 % 4294967296 = ((a % 65536 : Nat) : Int) := by
  have h := bits_and_u64_nat a 65535 ha (by omega)
  rw [Nat.and_two_pow_sub_one_eq_mod a 16] at h
  rw [show (65535 : Int) = ((65535 : Nat) : Int) from rfl, h]
  omega

theorem in_digit {xs : List Nat} {m t x : Nat} (hx : x = dg xs m) (hb : x < B64) (ht : t < 4) :
    (t = 0 → bits .and .u64 (x : Int) 65535 % 4294967296 = ((d16 xs (4 * m + t) : Nat) : Int)) ∧
    (t = 1 → bits .and .u64 ((x : Int) / 65536) 65535 % 4294967296 = ((d16 xs (4 * m + t) : Nat) : Int)) ∧
    (t = 2 → bits .and .u64 ((x : Int) / 4294967296) 65535 % 4294967296 = ((d16 xs (4 * m + t) : Nat) : Int)) ∧
    (t = 3 → bits .and .u64 ((x : Int) / 281474976710656) 65535 % 4294967296 = ((d16 xs (4 * m + t) : Nat) : Int)) := by
  have e : d16 xs (4 * m + t) = x / 65536 ^ t % 65536 := by
    unfold d16; rw [show (4 * m + t) / 4 = m by omega, show (4 * m + t) % 4 = t by omega, hx]
  rw [e]
  refine ⟨?_, ?_, ?_, ?_⟩ <;> intro h <;> subst h
  · rw [and16 x hb]; simp
  · rw [show (x : Int) / 65536 = ((x / 65536 : Nat) : Int) by omega, and16 _ (Nat.lt_of_le_of_lt (Nat.div_le_self _ _) hb), Nat.pow_one]
  · rw [show (x : Int) / 4294967296 = ((x / 4294967296 : Nat) : Int) by omega, and16 _ (Nat.lt_of_le_of_lt (Nat.div_le_self _ _) hb)]
  · rw [show (x : Int) / 281474976710656 = ((x / 281474976710656 : Nat) : Int) by omega, and16 _ (Nat.lt_of_le_of_lt (Nat.div_le_self _ _) hb)]

set_option maxRecDepth 100000 in
set_option maxHeartbeats 4000000 in
theorem in_at (b o len cap : Nat) (xs : List Nat) (w : World) (hl : len ≤ 100000000) (hx : xs.length = len) (hb : b < w.heap.size)
    (hcell : ∀ i, i < xs.length → w.cell? ⟨b, o + i, none⟩ = some (.int .u64 ((dg xs i : Nat) : Int))) (ox : Ok B64 xs) :
    Calls Tryz.prog 36 #[.slice (some ⟨b, o, none⟩) len cap] w (RPost w (4 * len) (num B64 xs)) := by
  obtain ⟨i0, hi, hz0, hz1, hz2⟩ := info_parts Tryz.infoD
  go_enter Tryz.func36, Tryz.ntmps36
  go_wp2
  go_loopw [3, 4, 5] (fun v i _ wr => ∃ m : Nat, m ≤ len ∧ i = .int .i64 m ∧ Grows w wr v (digs xs (4 * m))) (fun _ i _ _ => len - (intOf i).toNat)
  case atStart => exact ⟨0, Nat.zero_le _, rfl, (Below.refl _ _).alloc (Nat.le_refl _) _, World.ownsRow_lit _ #[] 0 (Nat.le_refl _) (by unfold maxLen; omega) rfl⟩
  case round =>
    obtain ⟨m, hm, rfl, hg⟩ := hrel
    have HG : Hid (Grows w wr u3 (digs xs (4 * m))) := hg
    clear hg
    by_cases hlt : m < len
    · have hlt' : (m : Int) < (len : Int) := by omega
      go_wp2
      go_loopw [3, 5] (fun v k wr => ∃ t : Nat, t ≤ 4 ∧ k = .int .i64 t ∧ Grows w wr v (digs xs (4 * m + t))) (fun _ k _ => 4 - (intOf k).toNat)
      case atStart => exact ⟨0, by omega, rfl, HG.out⟩
      case round =>
        clear HG
        obtain ⟨t, ht, rfl, hg⟩ := hrel
        have HG : Hid (Grows w wr u3 (digs xs (4 * m + t))) := hg
        have c0 : wr.cell? ⟨b, o + m, none⟩ = some (.int .u64 ((dg xs m : Nat) : Int)) := (hg.1.cell hb).trans (hcell m (by omega))
        have hsz := hg.1.size
        obtain ⟨x, hxm⟩ : ∃ x, x = dg xs m := ⟨_, rfl⟩
        rw [← hxm] at c0
        have HX : Hid (x = dg xs m) := hxm
        have HB : Hid (x < B64) := by rw [hxm]; exact ox m
        clear hxm hcell ox
        by_cases h4 : t = 4
        · subst h4
          clear hg
          go_wp2
          go_roundw
          case rel => exact ⟨m + 1, by omega, by go_num, HG.out⟩
          case measure => simp [intOf]; omega
        · have hown := hg.2
          rw [length_digs] at hown
          have hd := in_digit (t := t) HX.out HB.out (by omega)
          have HD : Hid (digs xs (4 * m + t) ++ [d16 xs (4 * m + t)] = digs xs (4 * m + (t + 1))) := (digs_succ xs (4 * m + t)).symm
          clear hg
          obtain ⟨d, hdd⟩ : ∃ d, d = d16 xs (4 * m + t) := ⟨_, rfl⟩
          rw [← hdd] at hd
          have HE : Hid (d = d16 xs (4 * m + t)) := hdd
          clear hdd
          rcases (show t = 0 ∨ t = 1 ∨ t = 2 ∨ t = 3 by omega) with rfl | rfl | rfl | rfl
          · have hd0 := hd.1 rfl
            clear hd
            go_wp2_with (at_builtin; refine wpList_append_own _ rfl _ _ 77 rfl w.heap.size 96 i0 (.int .u32 0) 1 4 Tryz.underlying77 hi hz0 hz1 hz2 rfl (by decide) _ _ _ rfl (hown.alloc _) ⟨wr.heap.size, 0, none⟩ 1 1 [.int .u32 (d : Int)] rfl rfl ?c1 ?c2 ?c3 ?c4 ?c5 ?_)
            case c1 => exact new_cell wr _ _
            case c2 => exact one_one _ _
            case c3 => unfold maxLen; omega
            case c4 => omega
            case c5 => simp; omega
            intro v' w1 hown' hgrow _
            have hg' : Grows w w1 v' (digs xs (4 * m + 1)) := by
              rw [← HD.out, ← HE.out]
              exact HG.out.step _ (by rw [length_digs]; exact hown') hgrow
            have HG' : Hid (Grows w w1 v' (digs xs (4 * m + 1))) := hg'
            clear hown hown' hgrow hg' HG hd0
            go_wp2
            go_roundw
            case rel => exact ⟨1, by omega, by go_num, HG'.out⟩
            case measure => simp [intOf]
          · have hd0 := hd.2.1 rfl
            clear hd
            go_wp2_with (at_builtin; refine wpList_append_own _ rfl _ _ 77 rfl w.heap.size 96 i0 (.int .u32 0) 1 4 Tryz.underlying77 hi hz0 hz1 hz2 rfl (by decide) _ _ _ rfl (hown.alloc _) ⟨wr.heap.size, 0, none⟩ 1 1 [.int .u32 (d : Int)] rfl rfl ?c1 ?c2 ?c3 ?c4 ?c5 ?_)
            case c1 => exact new_cell wr _ _
            case c2 => exact one_one _ _
            case c3 => unfold maxLen; omega
            case c4 => omega
            case c5 => simp; omega
            intro v' w1 hown' hgrow _
            have hg' : Grows w w1 v' (digs xs (4 * m + 2)) := by
              rw [← HD.out, ← HE.out]
              exact HG.out.step _ (by rw [length_digs]; exact hown') hgrow
            have HG' : Hid (Grows w w1 v' (digs xs (4 * m + 2))) := hg'
            clear hown hown' hgrow hg' HG hd0
            go_wp2
            go_roundw
            case rel => exact ⟨2, by omega, by go_num, HG'.out⟩
            case measure => simp [intOf]
          · have hd0 := hd.2.2.1 rfl
            clear hd
            go_wp2_with (at_builtin; refine wpList_append_own _ rfl _ _ 77 rfl w.heap.size 96 i0 (.int .u32 0) 1 4 Tryz.underlying77 hi hz0 hz1 hz2 rfl (by decide) _ _ _ rfl (hown.alloc _) ⟨wr.heap.size, 0, none⟩ 1 1 [.int .u32 (d : Int)] rfl rfl ?c1 ?c2 ?c3 ?c4 ?c5 ?_)
            case c1 => exact new_cell wr _ _
            case c2 => exact one_one _ _
            case c3 => unfold maxLen; omega
            case c4 => omega
            case c5 => simp; omega
            intro v' w1 hown' hgrow _
            have hg' : Grows w w1 v' (digs xs (4 * m + 3)) := by
              rw [← HD.out, ← HE.out]
              exact HG.out.step _ (by rw [length_digs]; exact hown') hgrow
            have HG' : Hid (Grows w w1 v' (digs xs (4 * m + 3))) := hg'
            clear hown hown' hgrow hg' HG hd0
            go_wp2
            go_roundw
            case rel => exact ⟨3, by omega, by go_num, HG'.out⟩
            case measure => simp [intOf]
          · have hd0 := hd.2.2.2 rfl
            clear hd
            go_wp2_with (at_builtin; refine wpList_append_own _ rfl _ _ 77 rfl w.heap.size 96 i0 (.int .u32 0) 1 4 Tryz.underlying77 hi hz0 hz1 hz2 rfl (by decide) _ _ _ rfl (hown.alloc _) ⟨wr.heap.size, 0, none⟩ 1 1 [.int .u32 (d : Int)] rfl rfl ?c1 ?c2 ?c3 ?c4 ?c5 ?_)
            case c1 => exact new_cell wr _ _
            case c2 => exact one_one _ _
            case c3 => unfold maxLen; omega
            case c4 => omega
            case c5 => simp; omega
            intro v' w1 hown' hgrow _
            have hg' : Grows w w1 v' (digs xs (4 * m + 4)) := by
              rw [← HD.out, ← HE.out]
              exact HG.out.step _ (by rw [length_digs]; exact hown') hgrow
            have HG' : Hid (Grows w w1 v' (digs xs (4 * m + 4))) := hg'
            clear hown hown' hgrow hg' HG hd0
            go_wp2
            go_roundw
            case rel => exact ⟨4, by omega, by go_num, HG'.out⟩
            case measure => simp [intOf]
    · obtain rfl : m = len := by omega
      obtain ⟨ao, cp, rfl, hcl, hat⟩ := HG.out.at
      have hbel := HG.out.1
      obtain ⟨q, hq⟩ : ∃ q, q = (trimmed (digs xs (4 * m))).length := ⟨_, rfl⟩
      have HQ : Hid ((trimmed (digs xs (4 * m))).length = q) := hq.symm
      have hle := length_trimmed_le (digs xs (4 * m))
      rw [length_digs] at hcl hle
      rw [HQ.out] at hle
      clear HG hq
      rw [length_digs]
      go_wp2_with fail
      refine (rtrim_to ao (4 * m) cp q (digs xs (4 * m)) _ hcl (by omega) (length_digs _ _) hat HQ.out).mono ?_
      rintro e w' ⟨rfl, rfl⟩
      go_wp2
      go_ret
      refine ⟨ao, cp, trimmed (digs xs (4 * m)), by rw [HQ.out]; rfl, by rw [HQ.out]; omega, hat.trimmed, ?_, by rw [HQ.out]; exact hle, hbel⟩
      have := Is.trimmed (digs_ok xs (4 * m))
      rw [show num 65536 (digs xs (4 * m)) = num B64 xs from ?_] at this
      · exact this
      · unfold num
        rw [length_digs, hx, V_congr (4 * m) (fun i hi => dg_digs xs (4 * m) i hi), V_digs B64 (by decide +kernel) xs (fun i => ox i)]

set_option maxHeartbeats 4000000 in
theorem in_nil (ao : Option Addr) (cap : Nat) (w : World) :
    Calls Tryz.prog 36 #[.slice ao 0 cap] w (RPost w 0 0) := by
  have hgr : Grows w (w.alloc (.cells #[] 96)) (.slice (some ⟨w.heap.size, 0, none⟩) 0 0) [] := ⟨(Below.refl _ _).alloc (Nat.le_refl _) _, World.ownsRow_lit _ #[] 0 (Nat.le_refl _) (by unfold maxLen; omega) rfl⟩
  have HG : Hid (Grows w (w.alloc (.cells #[] 96)) (.slice (some ⟨w.heap.size, 0, none⟩) 0 0) []) := hgr
  clear hgr
  go_enter Tryz.func36, Tryz.ntmps36
  go_wp2
  refine wp_loop_rounds 1 ?_
  rw [rounds_succ]
  go_wp2_with fail
  refine (rtrim_to _ 0 0 0 [] _ (Nat.le_refl _) (by omega) rfl (At.nil _ _ _) rfl).mono ?_
  rintro e w' ⟨rfl, rfl⟩
  go_wp2
  go_ret
  exact ⟨_, _, [], rfl, Nat.le_refl _, At.nil _ _ _, Is.none (by decide), Nat.le_refl _, HG.out.1⟩

theorem in_any (ao : Option Addr) (len cap : Nat) (xs : List Nat) (w : World) (hl : len ≤ 100000000) (hx : xs.length = len) (hat : At .u64 w ao xs) (ox : Ok B64 xs) :
    Calls Tryz.prog 36 #[.slice ao len cap] w (RPost w (4 * len) (num B64 xs)) := by
  rcases hat with rfl | ⟨b, o, rfl, h2, h3⟩
  · obtain rfl : len = 0 := hx.symm
    exact in_nil ao cap w
  · exact in_at b o len cap xs w hl hx h2 h3 ox

end Go.Proofs.YtionbkmbhhlmjaaGreatDoor
