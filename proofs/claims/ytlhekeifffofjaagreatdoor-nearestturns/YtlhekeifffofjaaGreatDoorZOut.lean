/-
  What the reference's Out does: digits of 16 bits, as limbs.
-/
import Derived.Test.YtlhekeifffofjaaGreatDoorZB8
import Derived.Test.YtlhekeifffofjaaGreatDoorZShift
import Derived.Test.YtlhekeifffofjaaGreatDoorZB2
namespace Go.Proofs.YtlhekeifffofjaaGreatDoor
open Go.RowKit

/-- What Out answers: a list of limbs that is the number n. -/
def OutPost (w : World) (m n : Nat) (e : Ending) (w' : World) : Prop :=
  ∃ ao cap os, e = .returned (.slice ao os.length cap) ∧ os.length ≤ cap ∧ At .u64 w' ao os ∧ Is B64 os n ∧ os.length ≤ m ∧ Below w.heap.size w w'

/-- A list of limbs that is being built: i digits of ys are in it. -/
structure OutInv (w : World) (ys : List Nat) (i : Nat) (wr : World) (v : Value) (os : List Nat) : Prop where
  bel : Below w.heap.size w wr
  own : wr.ownsRow w.heap.size 24 1 v os.length (vals .u64 os)
  ok : Ok B64 os
  len : os.length = (i + 3) / 4
  top : i % 4 ≠ 0 → dg os (i / 4) < 65536 ^ (i % 4)
  val : num B64 os = V 65536 (dg ys) i

theorem dg_append_zero (os : List Nat) (j : Nat) : dg (os ++ [0]) j = dg os j := by
  unfold dg
  by_cases h : j < os.length
  · rw [List.getElem?_append_left h]
  · rw [List.getElem?_append_right (by omega), List.getElem?_eq_none (show os.length ≤ j by omega)]
    rcases hj : j - os.length with _ | k <;> simp

theorem num_append_zero (b : Nat) (os : List Nat) : num b (os ++ [0]) = num b os := by
  rw [← num_eq (xs := os) (n := (os ++ [0]).length) (by simp)]
  unfold num
  exact V_congr _ (fun i _ => dg_append_zero os i)

/-- One digit more: laid into its limb, which had room for it. -/
theorem out_digit {os ys : List Nat} {i q r d : Nat} (hi : i = 4 * q + r) (hr : r < 4) (ho : Ok B64 os) (hq : q < os.length) (ht : dg os q < 65536 ^ r) (hd : d = dg ys i) (hdl : d < 65536) (hv : num B64 os = V 65536 (dg ys) i) :
    dg os q ||| d * 2 ^ (16 * r) % 2 ^ 64 = dg os q + d * 65536 ^ r ∧ dg os q + d * 65536 ^ r < 65536 ^ (r + 1) ∧ Ok B64 (os.set q (dg os q + d * 65536 ^ r)) ∧ num B64 (os.set q (dg os q + d * 65536 ^ r)) = V 65536 (dg ys) (i + 1) := by
  have hp : (2 : Nat) ^ (16 * r) = 65536 ^ r := by rw [Nat.pow_mul]
  have h1 : (d + 1) * 65536 ^ r ≤ 65536 * 65536 ^ r := Nat.mul_le_mul_right _ hdl
  rw [Nat.add_mul, Nat.one_mul] at h1
  have h2 : 65536 * 65536 ^ r = 65536 ^ (r + 1) := by rw [Nat.pow_succ, Nat.mul_comm]
  have h3 : (65536 : Nat) ^ (r + 1) ≤ 65536 ^ 4 := Nat.pow_le_pow_right (by omega) (by omega)
  have h4 : (65536 : Nat) ^ 4 = 2 ^ 64 := by decide +kernel
  have hlt : dg os q + d * 65536 ^ r < 65536 ^ (r + 1) := by omega
  refine ⟨?_, hlt, ho.set hq (by rw [B64_pow, ← h4]; omega), ?_⟩
  · rw [hp, Nat.mod_eq_of_lt (by omega), ← hp]
    exact or_low (by rw [hp]; exact ht)
  · have e1 := num_set B64 os q (dg os q + d * 65536 ^ r) hq
    simp only [V]
    rw [← hd, ← hv]
    have e2 : d * 65536 ^ i = d * 65536 ^ r * B64 ^ q := by
      rw [hi, Nat.pow_add, Nat.pow_mul, show (65536 : Nat) ^ 4 = B64 by decide +kernel, Nat.mul_comm (B64 ^ q), Nat.mul_assoc]
    rw [e2]
    rw [Nat.add_mul] at e1
    omega

/-- The same, the limb that the next digit goes into being there: i = 4 q + r. -/
structure OutMid (w : World) (ys : List Nat) (i q r : Nat) (wr : World) (v : Value) (os : List Nat) : Prop where
  bel : Below w.heap.size w wr
  own : wr.ownsRow w.heap.size 24 1 v os.length (vals .u64 os)
  ok : Ok B64 os
  len : os.length = q + 1
  pos : i = 4 * q + r
  top : dg os q < 65536 ^ r
  val : num B64 os = V 65536 (dg ys) i

theorem OutMid.head {w : World} {ys : List Nat} {i q r : Nat} {wr : World} {v : Value} {os : List Nat} (h : OutMid w ys i q r wr v os) :
    ∃ g cp, v = .slice (some ⟨g, 0, none⟩) (q + 1) cp ∧ w.heap.size ≤ g ∧ wr.cell? ⟨g, q, none⟩ = some (.int .u64 ((dg os q : Nat) : Int)) ∧ wr.frozen? ⟨g, q, none⟩ = false := by
  have hl := h.len
  have hown := h.own
  rcases hown.2 with ⟨_, h0⟩ | ⟨g, cp, cur, hv, hg, _⟩
  · omega
  · subst hv
    refine ⟨g, cp, by rw [hl], hg, ?_, hown.frozenAt q⟩
    rw [hown.cellAt q (by omega)]
    simp [vals, dg, hl]

theorem OutMid.put {w : World} {ys : List Nat} {i q r : Nat} {wr wr' : World} {g cp : Nat} {os : List Nat} (h : OutMid w ys i q r wr (.slice (some ⟨g, 0, none⟩) (q + 1) cp) os) (hr : r < 4) (hd : dg ys i < 65536) (X : Int)
    (hX : X = ((dg os q ||| dg ys i * 2 ^ (16 * r) % 2 ^ 64 : Nat) : Int)) (hw : Like wr' (wr.setCell ⟨g, q, none⟩ (.int .u64 X))) :
    ∃ os', OutInv w ys (i + 1) wr' (.slice (some ⟨g, 0, none⟩) (q + 1) cp) os' := by
  have hl := h.len
  have hi := h.pos
  obtain ⟨e1, e2, e3, e4⟩ := out_digit h.pos hr h.ok (by omega) h.top rfl hd h.val
  rw [e1] at hX
  have hown := h.own
  rw [hl] at hown
  have hg : w.heap.size ≤ g := by
    rcases hown.2 with ⟨h0, _⟩ | ⟨g', cp', cur, hv, hg, _⟩
    · cases h0
    · simp only [Value.slice.injEq, Option.some.injEq, Addr.mk.injEq] at hv; omega
  have hst := (hown.stored q (.int .u64 X)).1
  refine ⟨os.set q (dg os q + dg ys i * 65536 ^ r), hw.below (h.bel.setCell hg _), ?_, e3, by simp; omega, ?_, e4⟩
  · rw [List.length_set, hl]
    have : (vals .u64 os).set q (.int .u64 X) = vals .u64 (os.set q (dg os q + dg ys i * 65536 ^ r)) := by
      rw [hX]; simp [vals, List.map_set]
    rw [this] at hst
    exact ⟨hst.1, by rw [hw.1]; exact hst.2⟩
  · intro hne
    rw [dg_set _ _ _ _ (by omega), show (i + 1) / 4 = q by omega, if_pos rfl, show (i + 1) % 4 = r + 1 by omega]
    exact e2

theorem OutInv.mid {w : World} {ys : List Nat} {i q r : Nat} {wr : World} {v : Value} {os : List Nat} (h : OutInv w ys i wr v os) (hi : i = 4 * q + r) (hr : r < 4) (h0 : r ≠ 0) : OutMid w ys i q r wr v os := by
  have hl := h.len
  have ht := h.top (by omega)
  rw [show i / 4 = q by omega, show i % 4 = r by omega] at ht
  exact ⟨h.bel, h.own, h.ok, by omega, hi, ht, h.val⟩

theorem OutInv.more {w : World} {ys : List Nat} {i q : Nat} {wr w1 : World} {v v' : Value} {os : List Nat} (o : Obj) (h : OutInv w ys i wr v os) (hi : i = 4 * q)
    (ho : w1.ownsRow w.heap.size 24 1 v' (os.length + 1) (vals .u64 os ++ [.int .u64 0])) (hg : (wr.alloc o).grownBy w1 v.ownBlock) : OutMid w ys i q 0 w1 v' (os ++ [0]) := by
  have hl := h.len
  have hb := h.bel.alloc (h.bel.size) o
  refine ⟨hb.grown hg hb.size ?_, ?_, ?_, by simp; omega, by omega, ?_, ?_⟩
  · intro k hk
    rcases h.own.2 with ⟨rfl, _⟩ | ⟨g, cap, cur, rfl, hgb, _⟩
    · simp [Value.ownBlock] at hk
    · simp [Value.ownBlock] at hk; omega
  · rw [List.length_append]
    have : vals .u64 (os ++ [0]) = vals .u64 os ++ [.int .u64 0] := by simp [vals]
    rw [this]; exact ho
  · intro j; rw [dg_append_zero]; exact h.ok j
  · rw [dg_append_zero, dg_out (by omega)]; decide
  · rw [num_append_zero]; exact h.val

theorem or_put (a d : Nat) (ha : a < B64) (s : Nat) : bits .or .u64 (a : Int) (IntKind.u64.wrap ((d : Int) * 2 ^ s)) = ((a ||| d * 2 ^ s % 2 ^ 64 : Nat) : Int) := by
  have hp : 0 < (2 : Nat) ^ 64 := Nat.two_pow_pos _
  rw [wrap_shl, or_nat a _ ha (by rw [B64_pow]; exact Nat.mod_lt _ hp)]

theorem put0 (y d : Nat) (hy : y < B64) (hd : d < 65536) : bits .or .u64 (y : Int) (d : Int) = ((y ||| d * 2 ^ (16 * 0) % 2 ^ 64 : Nat) : Int) := by
  have h64 : (2 : Nat) ^ 64 = 18446744073709551616 := by decide +kernel
  rw [or_nat y d hy (Nat.lt_trans hd (by decide)), show d * 2 ^ (16 * 0) % 2 ^ 64 = d by rw [h64]; simp; omega]
theorem put1 (y d : Nat) (hy : y < B64) (hd : d < 65536) : bits .or .u64 (y : Int) ((d : Int) * 65536) = ((y ||| d * 2 ^ (16 * 1) % 2 ^ 64 : Nat) : Int) := by
  have h : (d : Int) * 65536 = IntKind.u64.wrap ((d : Int) * 2 ^ 16) := by
    rw [IntKind.wrap_u64, show (2 : Int) ^ 16 = 65536 by decide +kernel]; omega
  rw [h]; exact or_put y d hy 16
theorem put2 (y d : Nat) (hy : y < B64) (hd : d < 65536) : bits .or .u64 (y : Int) ((d : Int) * 4294967296) = ((y ||| d * 2 ^ (16 * 2) % 2 ^ 64 : Nat) : Int) := by
  have h : (d : Int) * 4294967296 = IntKind.u64.wrap ((d : Int) * 2 ^ 32) := by
    rw [IntKind.wrap_u64, show (2 : Int) ^ 32 = 4294967296 by decide +kernel]; omega
  rw [h]; exact or_put y d hy 32
theorem put3 (y d : Nat) (hy : y < B64) (hd : d < 65536) : bits .or .u64 (y : Int) ((d : Int) * 281474976710656) = ((y ||| d * 2 ^ (16 * 3) % 2 ^ 64 : Nat) : Int) := by
  have h : (d : Int) * 281474976710656 = IntKind.u64.wrap ((d : Int) * 2 ^ 48) := by
    rw [IntKind.wrap_u64, show (2 : Int) ^ 48 = 281474976710656 by decide +kernel]; omega
  rw [h]; exact or_put y d hy 48

theorem OutInv.at {w : World} {ys : List Nat} {i : Nat} {wr : World} {v : Value} {os : List Nat} (h : OutInv w ys i wr v os) : ∃ ao cap, v = .slice ao os.length cap ∧ os.length ≤ cap ∧ At .u64 wr ao os := by
  obtain ⟨_, ⟨hl, ho⟩, _⟩ := h
  rcases ho with ⟨rfl, h0⟩ | ⟨g, cap, cur, rfl, hg, hh, hn, _, hs, ht⟩
  · obtain rfl : os = [] := List.length_eq_zero_iff.1 h0
    exact ⟨none, 0, rfl, Nat.le_refl _, At.nil _ _ _⟩
  · refine ⟨_, cap, rfl, hn, .inr ⟨g, 0, rfl, lt_of_block hh, fun i hi => ?_⟩⟩
    simp only [World.cell?, hh]
    have hc : cur[i]? = (vals .u64 os)[i]? := by
      rw [← ht, List.getElem?_take_of_lt (by omega), Array.getElem?_toList]
    simp only [Option.isSome_none, Bool.false_eq_true, if_false, Nat.zero_add, hc]
    simp [vals, hi]

/-- When all digits are in, the limbs have no noughts on top, since the digits have none. -/
theorem OutInv.is {w : World} {ys : List Nat} {i : Nat} {wr : World} {v : Value} {os : List Nat} (h : OutInv w ys i wr v os) (hx : ys.length = i) (ty : Top ys) : Is B64 os (num 65536 ys) := by
  have hv : num B64 os = num 65536 ys := by rw [h.val, ← hx]; rfl
  refine ⟨h.ok, ?_, hv⟩
  intro n hn h0
  have hl := h.len
  have h4 : (65536 : Nat) ^ 4 = B64 := by decide +kernel
  have hlt : num B64 os < B64 ^ n := by
    unfold num
    rw [hn]
    simp only [V]
    rw [h0, Nat.zero_mul, Nat.add_zero]
    exact V_lt n (fun j _ => h.ok j)
  rcases i with _ | i
  · omega
  · have hge := num_ge (b := 65536) ty hx
    have : B64 ^ n ≤ 65536 ^ i := by
      rw [← h4, ← Nat.pow_mul]
      exact Nat.pow_le_pow_right (by omega) (by omega)
    omega

set_option maxRecDepth 100000 in
set_option maxHeartbeats 1000000 in
theorem out_at (b o len cap : Nat) (ys : List Nat) (w : World) (hl : len ≤ 1000000000) (hx : ys.length = len) (hb : b < w.heap.size)
    (hcell : ∀ i, i < ys.length → w.cell? ⟨b, o + i, none⟩ = some (.int .u32 ((dg ys i : Nat) : Int))) (oy : Ok 65536 ys) (ty : Top ys)
    (la ca : Nat) (c1 : ∀ w' : World, w'.heap = w.heap → Calls Tryz.prog 48 #[.slice (some ⟨b, o, none⟩) la ca] w' fun e w'' => e = .returned (.slice (some ⟨b, o, none⟩) len cap) ∧ w' = w'') :
    Calls Tryz.prog 40 #[.slice (some ⟨b, o, none⟩) la ca] w (OutPost w ((len + 3) / 4) (num 65536 ys)) := by
  obtain ⟨i0, hi, hz0, hz1, hz2⟩ := info_parts Tryz.infoU
  have C1 : Hid (∀ w' : World, w'.heap = w.heap → Calls Tryz.prog 48 #[.slice (some ⟨b, o, none⟩) la ca] w' fun e w'' => e = .returned (.slice (some ⟨b, o, none⟩) len cap) ∧ w' = w'') := c1
  clear c1
  go_enter Tryz.func40, Tryz.ntmps40
  go_wp2_with fail
  refine (C1.out _ rfl).mono ?_
  rintro e w' ⟨rfl, rfl⟩
  go_wp2
  go_loopw [3, 4] (fun v i wr => ∃ (k : Nat) (os : List Nat), k ≤ len ∧ i = .int .i64 k ∧ OutInv w ys k wr v os) (fun _ i _ => len - (intOf i).toNat)
  case atStart =>
    refine ⟨0, [], Nat.zero_le _, rfl, (Below.refl _ _).alloc (Nat.le_refl _) _, World.ownsRow_lit _ #[] 0 (Nat.le_refl _) (by unfold maxLen; omega) rfl, fun i => by rw [dg_out (by simp)]; decide, rfl, fun h => absurd rfl h, rfl⟩
  case round =>
    obtain ⟨k, os, hk, rfl, hinv⟩ := hrel
    by_cases hlt : k < len
    · have hlt' : (k : Int) < (len : Int) := by omega
      have c0 : wr.cell? ⟨b, o + k, none⟩ = some (.int .u32 ((dg ys k : Nat) : Int)) := (hinv.bel.cell hb).trans (hcell k (by omega))
      obtain ⟨d, hd⟩ : ∃ d, d = dg ys k := ⟨_, rfl⟩
      rw [← hd] at c0
      have hdl : d < 65536 := by rw [hd]; exact oy k
      have HD : Hid (d = dg ys k) := hd
      have hcell0 : Hid (∀ i, i < ys.length → w.cell? ⟨b, o + i, none⟩ = some (.int .u32 ((dg ys i : Nat) : Int))) := hcell
      clear hd hcell oy ty
      obtain ⟨q, hq⟩ : ∃ q, q = k / 4 := ⟨_, rfl⟩
      have hql : q ≤ 1000000000 := by omega
      have htd : (k : Int).tdiv 4 = (q : Int) := by rw [Int.tdiv_eq_ediv_of_nonneg (by omega)]; omega
      have hdv : (k : Int) / 4 = (q : Int) := by omega
      have hwq : IntKind.i64.wrap (q : Int) = (q : Int) := by simp [IntKind.wrap, IntKind.bits, IntKind.signed]; omega
      rcases (show k % 4 = 0 ∨ k % 4 = 1 ∨ k % 4 = 2 ∨ k % 4 = 3 by omega) with hr | hr | hr | hr
      · have htm : (k : Int).tmod 4 = 0 := by rw [Int.tmod_eq_emod_of_nonneg (by omega)]; omega
        have hmd : (k : Int) % 4 = 0 := by omega
        have hown := hinv.own
        have hlen : os.length ≤ 1000000000 := by have := hinv.len; omega
        have hsz := hinv.bel.size
        have hcb := fun w1 (hbw : Below wr.heap.size wr w1) => (hbw.cell (p := ⟨b, o + k, none⟩) (Nat.lt_of_lt_of_le hb hsz)).trans c0
        have HI : Hid (OutInv w ys k wr u3 os) := hinv
        have HC : Hid (∀ w1, Below w.heap.size w w1 → w1.cell? ⟨b, o + k, none⟩ = some (.int .u32 (d : Int))) := by
          intro w1 hw1
          rw [HD.out]
          exact (hw1.cell hb).trans (hcell0.out k (by omega))
        clear hcb hinv
        go_wp2_with (at_builtin; refine wpList_append_own _ rfl _ _ 62 rfl w.heap.size 24 i0 (.int .u64 0) 1 8 Tryz.underlying62 hi hz0 hz1 hz2 rfl (by decide) _ _ _ rfl (hown.alloc _) ⟨wr.heap.size, 0, none⟩ 1 1 [.int .u64 0] rfl rfl ?c1 ?c2 ?c3 ?c4 ?c5 ?_)
        case c1 => exact new_cell wr _ _
        case c2 => exact one_one _ _
        case c3 => unfold maxLen; omega
        case c4 => omega
        case c5 => simp; omega
        intro v' w1 hown' hgrow _
        have hmid := HI.out.more (q := q) _ (by omega) hown' hgrow
        obtain ⟨os', hos⟩ : ∃ z, z = os ++ [0] := ⟨_, rfl⟩
        rw [← hos] at hmid
        have c0' := HC.out w1 hmid.bel
        clear hown' hgrow hown c0 HI HC hos hsz hlen
        obtain ⟨g, cp, hv, hg, c1, f1⟩ := hmid.head
        obtain ⟨y, hy⟩ : ∃ y, y = dg os' q := ⟨_, rfl⟩
        rw [← hy] at c1
        have hyb : y < B64 := by rw [hy]; exact hmid.ok q
        subst hv
        have hput := fun wr' hw => hmid.put (wr' := wr') (by omega) (by rw [← HD.out]; exact hdl) (bits BinOp.or IntKind.u64 (y : Int) (d : Int)) (by rw [← HD.out, ← hy]; exact put0 y d hyb hdl) hw
        have HP : Hid (∀ wr', Like wr' (w1.setCell ⟨g, q, none⟩ (.int .u64 (bits BinOp.or IntKind.u64 (y : Int) (d : Int)))) → ∃ os', OutInv w ys (k + 1) wr' (.slice (some ⟨g, 0, none⟩) (q + 1) cp) os') := hput
        clear hput hy hmid hr hq hyb
        have hqi : (q : Int) < ((q + 1 : Nat) : Int) := by omega
        have hne : g ≠ b := by omega
        have hne' : b ≠ g := by omega
        go_wp2
        go_region
        go_wp2
        go_roundw
        case rel =>
          obtain ⟨os2, h2⟩ := HP.out (w1.setCell ⟨g, q, none⟩ (.int .u64 (bits BinOp.or IntKind.u64 (y : Int) (d : Int)))).drew ⟨rfl, rfl, rfl, rfl⟩
          exact ⟨k + 1, os2, by omega, by go_num, h2⟩
        case measure => simp [intOf]; omega
      · have htm : (k : Int).tmod 4 = 1 := by rw [Int.tmod_eq_emod_of_nonneg (by omega)]; omega
        have hmd : (k : Int) % 4 = 1 := by omega
        have hmid := hinv.mid (q := q) (r := 1) (by omega) (by omega) (by omega)
        obtain ⟨os', hos⟩ : ∃ z, z = os := ⟨_, rfl⟩
        rw [← hos] at hmid
        clear hinv hos
        obtain ⟨g, cp, hv, hg, c1, f1⟩ := hmid.head
        obtain ⟨y, hy⟩ : ∃ y, y = dg os' q := ⟨_, rfl⟩
        rw [← hy] at c1
        have hyb : y < B64 := by rw [hy]; exact hmid.ok q
        subst hv
        have hput := fun wr' hw => hmid.put (wr' := wr') (by omega) (by rw [← HD.out]; exact hdl) (bits BinOp.or IntKind.u64 (y : Int) ((d : Int) * 65536)) (by rw [← HD.out, ← hy]; exact put1 y d hyb hdl) hw
        have HP : Hid (∀ wr', Like wr' (wr.setCell ⟨g, q, none⟩ (.int .u64 (bits BinOp.or IntKind.u64 (y : Int) ((d : Int) * 65536)))) → ∃ os', OutInv w ys (k + 1) wr' (.slice (some ⟨g, 0, none⟩) (q + 1) cp) os') := hput
        clear hput hy hmid hr hq hyb
        have hqi : (q : Int) < ((q + 1 : Nat) : Int) := by omega
        have hne : g ≠ b := by omega
        have hne' : b ≠ g := by omega
        go_wp2
        go_region
        go_wp2
        go_roundw
        case rel =>
          obtain ⟨os2, h2⟩ := HP.out (wr.setCell ⟨g, q, none⟩ (.int .u64 (bits BinOp.or IntKind.u64 (y : Int) ((d : Int) * 65536)))).drew ⟨rfl, rfl, rfl, rfl⟩
          exact ⟨k + 1, os2, by omega, by go_num, h2⟩
        case measure => simp [intOf]; omega
      · have htm : (k : Int).tmod 4 = 2 := by rw [Int.tmod_eq_emod_of_nonneg (by omega)]; omega
        have hmd : (k : Int) % 4 = 2 := by omega
        have hmid := hinv.mid (q := q) (r := 2) (by omega) (by omega) (by omega)
        obtain ⟨os', hos⟩ : ∃ z, z = os := ⟨_, rfl⟩
        rw [← hos] at hmid
        clear hinv hos
        obtain ⟨g, cp, hv, hg, c1, f1⟩ := hmid.head
        obtain ⟨y, hy⟩ : ∃ y, y = dg os' q := ⟨_, rfl⟩
        rw [← hy] at c1
        have hyb : y < B64 := by rw [hy]; exact hmid.ok q
        subst hv
        have hput := fun wr' hw => hmid.put (wr' := wr') (by omega) (by rw [← HD.out]; exact hdl) (bits BinOp.or IntKind.u64 (y : Int) ((d : Int) * 4294967296)) (by rw [← HD.out, ← hy]; exact put2 y d hyb hdl) hw
        have HP : Hid (∀ wr', Like wr' (wr.setCell ⟨g, q, none⟩ (.int .u64 (bits BinOp.or IntKind.u64 (y : Int) ((d : Int) * 4294967296)))) → ∃ os', OutInv w ys (k + 1) wr' (.slice (some ⟨g, 0, none⟩) (q + 1) cp) os') := hput
        clear hput hy hmid hr hq hyb
        have hqi : (q : Int) < ((q + 1 : Nat) : Int) := by omega
        have hne : g ≠ b := by omega
        have hne' : b ≠ g := by omega
        go_wp2
        go_region
        go_wp2
        go_roundw
        case rel =>
          obtain ⟨os2, h2⟩ := HP.out (wr.setCell ⟨g, q, none⟩ (.int .u64 (bits BinOp.or IntKind.u64 (y : Int) ((d : Int) * 4294967296)))).drew ⟨rfl, rfl, rfl, rfl⟩
          exact ⟨k + 1, os2, by omega, by go_num, h2⟩
        case measure => simp [intOf]; omega
      · have htm : (k : Int).tmod 4 = 3 := by rw [Int.tmod_eq_emod_of_nonneg (by omega)]; omega
        have hmd : (k : Int) % 4 = 3 := by omega
        have hmid := hinv.mid (q := q) (r := 3) (by omega) (by omega) (by omega)
        obtain ⟨os', hos⟩ : ∃ z, z = os := ⟨_, rfl⟩
        rw [← hos] at hmid
        clear hinv hos
        obtain ⟨g, cp, hv, hg, c1, f1⟩ := hmid.head
        obtain ⟨y, hy⟩ : ∃ y, y = dg os' q := ⟨_, rfl⟩
        rw [← hy] at c1
        have hyb : y < B64 := by rw [hy]; exact hmid.ok q
        subst hv
        have hput := fun wr' hw => hmid.put (wr' := wr') (by omega) (by rw [← HD.out]; exact hdl) (bits BinOp.or IntKind.u64 (y : Int) ((d : Int) * 281474976710656)) (by rw [← HD.out, ← hy]; exact put3 y d hyb hdl) hw
        have HP : Hid (∀ wr', Like wr' (wr.setCell ⟨g, q, none⟩ (.int .u64 (bits BinOp.or IntKind.u64 (y : Int) ((d : Int) * 281474976710656)))) → ∃ os', OutInv w ys (k + 1) wr' (.slice (some ⟨g, 0, none⟩) (q + 1) cp) os') := hput
        clear hput hy hmid hr hq hyb
        have hqi : (q : Int) < ((q + 1 : Nat) : Int) := by omega
        have hne : g ≠ b := by omega
        have hne' : b ≠ g := by omega
        go_wp2
        go_region
        go_wp2
        go_roundw
        case rel =>
          obtain ⟨os2, h2⟩ := HP.out (wr.setCell ⟨g, q, none⟩ (.int .u64 (bits BinOp.or IntKind.u64 (y : Int) ((d : Int) * 281474976710656)))).drew ⟨rfl, rfl, rfl, rfl⟩
          exact ⟨k + 1, os2, by omega, by go_num, h2⟩
        case measure => simp [intOf]; omega
    · obtain rfl : k = len := by omega
      obtain ⟨ao, cp, rfl, hcl, hat⟩ := hinv.at
      have hbel := hinv.bel
      have his := hinv.is hx ty
      have HL : Hid (os.length = (k + 3) / 4) := hinv.len
      clear hinv
      go_wp2
      go_ret
      exact ⟨ao, cp, os, rfl, hcl, hat, his, by rw [HL.out]; exact Nat.le_refl _, hbel⟩

set_option maxHeartbeats 400000 in
theorem out_nil (ao : Option Addr) (cap la ca : Nat) (w : World) (c1 : ∀ w' : World, w'.heap = w.heap → Calls Tryz.prog 48 #[.slice ao la ca] w' fun e w'' => e = .returned (.slice ao 0 cap) ∧ w' = w'') :
    Calls Tryz.prog 40 #[.slice ao la ca] w (OutPost w 0 0) := by
  have C1 : Hid (∀ w' : World, w'.heap = w.heap → Calls Tryz.prog 48 #[.slice ao la ca] w' fun e w'' => e = .returned (.slice ao 0 cap) ∧ w' = w'') := c1
  clear c1
  go_enter Tryz.func40, Tryz.ntmps40
  go_wp2_with fail
  refine (C1.out _ rfl).mono ?_
  rintro e w' ⟨rfl, rfl⟩
  go_wp2
  refine wp_loop_rounds 1 ?_
  rw [rounds_succ]
  go_wp2
  go_ret
  exact ⟨_, _, [], rfl, Nat.le_refl _, At.nil _ _ _, Is.none (by decide), Nat.le_refl _, (Below.refl _ _).alloc (Nat.le_refl _) _⟩

theorem out_any (ao : Option Addr) (len cap : Nat) (ys : List Nat) (w : World) (hl : len ≤ 1000000000) (hlc : len ≤ cap) (hx : ys.length = len) (hat : At .u32 w ao ys) (oy : Ok 65536 ys) :
    Calls Tryz.prog 40 #[.slice ao len cap] w (OutPost w ((len + 3) / 4) (num 65536 ys)) := by
  have hle := length_trimmed_le ys
  rw [← num_trimmed]
  rcases hat.trimmed with h | ⟨b, o, rfl, h2, h3⟩
  · refine (out_nil ao cap len cap w (fun w' hw => rtrim_to ao len cap 0 ys w' hlc (by omega) hx (hat.same hw) (by rw [h]; rfl))).mono ?_
    rintro e w' ⟨ao', cp, os, a1, a2, a3, a4, a5, a6⟩
    refine ⟨ao', cp, os, a1, a2, a3, ?_, by omega, a6⟩
    rw [h]; exact a4
  · refine (out_at b o (trimmed ys).length cap (trimmed ys) w (by omega) rfl h2 h3 (trimmed_ok oy) (trimmed_top ys) len cap (fun w' hw => rtrim_to _ len cap _ ys w' hlc (by omega) hx (hat.same hw) rfl)).mono ?_
    rintro e w' ⟨ao', cp, os, a1, a2, a3, a4, a5, a6⟩
    exact ⟨ao', cp, os, a1, a2, a3, a4, by omega, a6⟩

end Go.Proofs.YtlhekeifffofjaaGreatDoor
