/-
  What the reference's Out does: digits of 16 bits, as limbs.
-/
import Derived.Test.YtckijnlolmbdiaaGreatDoorZB6
import Derived.Test.YtckijnlolmbdiaaGreatDoorZShift
import Derived.Test.YtckijnlolmbdiaaGreatDoorZB3
namespace Go.Proofs.YtckijnlolmbdiaaGreatDoor
open Go.RowKit

/-- A list of limbs that is being built: i digits of ys are in it. -/
structure OutInv (w : World) (ys : List Nat) (i : Nat) (wr : World) (v : Value) (os : List Nat) : Prop where
  bel : Below w.heap.size w wr
  own : wr.ownsRow w.heap.size 120 1 v os.length (vals .u64 os)
  ok : Ok B64 os
  len : os.length = (i + 3) / 4
  top : i % 4 ≠ 0 → dg os (i / 4) < 65536 ^ (i % 4)
  val : num B64 os = V 65536 (dg ys) i

theorem dg_append_zero (os : List Nat) (j : Nat) : dg (os ++ [0]) j = dg os j := by
  unfold dg
  by_cases h : j < os.length
  · rw [List.getElem?_append_left h]
  · rw [List.getElem?_append_right (by omega), List.getElem?_eq_none (show os.length ≤ j by omega)]
    rcases hj : j - os.length with _ | k <;> simp

theorem num_append_zero (b : Nat) (os : List Nat) : num b (os ++ [0]) = num b os := by
  rw [← num_eq (xs := os) (n := (os ++ [0]).length) (by simp)]
  unfold num
  exact V_congr _ (fun i _ => dg_append_zero os i)

/-- One digit more: laid into its limb, which had room for it. -/
theorem out_digit {os ys : List Nat} {i q r d : Nat} (hi : i = 4 * q + r) (hr : r < 4) (ho : Ok B64 os) (hq : q < os.length) (ht : dg os q < 65536 ^ r) (hd : d = dg ys i) (hdl : d < 65536) (hv : num B64 os = V 65536 (dg ys) i) :
    dg os q ||| d * 2 ^ (16 * r) % 2 ^ 64 = dg os q + d * 65536 ^ r ∧ dg os q + d * 65536 ^ r < 65536 ^ (r + 1) ∧ Ok B64 (os.set q (dg os q + d * 65536 ^ r)) ∧ num B64 (os.set q (dg os q + d * 65536 ^ r)) = V 65536 (dg ys) (i + 1) := by
  have hp : (2 : Nat) ^ (16 * r) = 65536 ^ r := by rw [Nat.pow_mul]
  have h1 : (d + 1) * 65536 ^ r ≤ 65536 * 65536 ^ r := Nat.mul_le_mul_right _ hdl
  rw [Nat.add_mul, Nat.one_mul] at h1
  have h2 : 65536 * 65536 ^ r = 65536 ^ (r + 1) := by rw [Nat.pow_succ, Nat.mul_comm]
  have h3 : (65536 : Nat) ^ (r + 1) ≤ 65536 ^ 4 := Nat.pow_le_pow_right (by omega) (by omega)
  have h4 : (65536 : Nat) ^ 4 = 2 ^ 64 := by decide +kernel
  have hlt : dg os q + d * 65536 ^ r < 65536 ^ (r + 1) := by omega
  refine ⟨?_, hlt, ho.set hq (by rw [B64_pow, ← h4]; omega), ?_⟩
  · rw [hp, Nat.mod_eq_of_lt (by omega), ← hp]
    exact or_low (by rw [hp]; exact ht)
  · have e1 := num_set B64 os q (dg os q + d * 65536 ^ r) hq
    simp only [V]
    rw [← hd, ← hv]
    have e2 : d * 65536 ^ i = d * 65536 ^ r * B64 ^ q := by
      rw [hi, Nat.pow_add, Nat.pow_mul, show (65536 : Nat) ^ 4 = B64 by decide +kernel, Nat.mul_comm (B64 ^ q), Nat.mul_assoc]
    rw [e2]
    rw [Nat.add_mul] at e1
    omega

/-- The same, the limb that the next digit goes into being there: i = 4 q + r. -/
structure OutMid (w : World) (ys : List Nat) (i q r : Nat) (wr : World) (v : Value) (os : List Nat) : Prop where
  bel : Below w.heap.size w wr
  own : wr.ownsRow w.heap.size 120 1 v os.length (vals .u64 os)
  ok : Ok B64 os
  len : os.length = q + 1
  pos : i = 4 * q + r
  top : dg os q < 65536 ^ r
  val : num B64 os = V 65536 (dg ys) i

theorem OutMid.head {w : World} {ys : List Nat} {i q r : Nat} {wr : World} {v : Value} {os : List Nat} (h : OutMid w ys i q r wr v os) :
    ∃ g cp, v = .slice (some ⟨g, 0, none⟩) (q + 1) cp ∧ w.heap.size ≤ g ∧ wr.cell? ⟨g, q, none⟩ = some (.int .u64 ((dg os q : Nat) : Int)) ∧ wr.frozen? ⟨g, q, none⟩ = false := by
  have hl := h.len
  have hown := h.own
  rcases hown.2 with ⟨_, h0⟩ | ⟨g, cp, cur, hv, hg, _⟩
  · omega
  · subst hv
    refine ⟨g, cp, by rw [hl], hg, ?_, hown.frozenAt q⟩
    rw [hown.cellAt q (by omega)]
    simp [vals, dg, hl]

theorem OutMid.put {w : World} {ys : List Nat} {i q r : Nat} {wr wr' : World} {g cp : Nat} {os : List Nat} (h : OutMid w ys i q r wr (.slice (some ⟨g, 0, none⟩) (q + 1) cp) os) (hr : r < 4) (hd : dg ys i < 65536) (X : Int)
    (hX : X = ((dg os q ||| dg ys i * 2 ^ (16 * r) % 2 ^ 64 : Nat) : Int)) (hw : Like wr' (wr.setCell ⟨g, q, none⟩ (.int .u64 X))) :
    ∃ os', OutInv w ys (i + 1) wr' (.slice (some ⟨g, 0, none⟩) (q + 1) cp) os' := by
  have hl := h.len
  have hi := h.pos
  obtain ⟨e1, e2, e3, e4⟩ := out_digit h.pos hr h.ok (by omega) h.top rfl hd h.val
  rw [e1] at hX
  have hown := h.own
  rw [hl] at hown
  have hg : w.heap.size ≤ g := by
    rcases hown.2 with ⟨h0, _⟩ | ⟨g', cp', cur, hv, hg, _⟩
    · cases h0
    · simp only [Value.slice.injEq, Option.some.injEq, Addr.mk.injEq] at hv; omega
  have hst := (hown.stored q (.int .u64 X)).1
  refine ⟨os.set q (dg os q + dg ys i * 65536 ^ r), hw.below (h.bel.setCell hg _), ?_, e3, by simp; omega, ?_, e4⟩
  · rw [List.length_set, hl]
    have : (vals .u64 os).set q (.int .u64 X) = vals .u64 (os.set q (dg os q + dg ys i * 65536 ^ r)) := by
      rw [hX]; simp [vals, List.map_set]
    rw [this] at hst
    exact ⟨hst.1, by rw [hw.1]; exact hst.2⟩
  · intro hne
    rw [dg_set _ _ _ _ (by omega), show (i + 1) / 4 = q by omega, if_pos rfl, show (i + 1) % 4 = r + 1 by omega]
    exact e2

theorem OutInv.more {w : World} {ys : List Nat} {i q : Nat} {wr w1 : World} {v v' : Value} {os : List Nat} (o : Obj) (h : OutInv w ys i wr v os) (hi : i = 4 * q)
    (ho : w1.ownsRow w.heap.size 120 1 v' (os.length + 1) (vals .u64 os ++ [.int .u64 0])) (hg : (wr.alloc o).grownBy w1 v.ownBlock) : OutMid w ys i q 0 w1 v' (os ++ [0]) := by
  have hl := h.len
  have hb := h.bel.alloc (h.bel.size) o
  refine ⟨hb.grown hg hb.size ?_, ?_, ?_, by simp; omega, by omega, ?_, ?_⟩
  · intro k hk
    rcases h.own.2 with ⟨rfl, _⟩ | ⟨g, cap, cur, rfl, hgb, _⟩
    · simp [Value.ownBlock] at hk
    · simp [Value.ownBlock] at hk; omega
  · rw [List.length_append]
    have : vals .u64 (os ++ [0]) = vals .u64 os ++ [.int .u64 0] := by simp [vals]
    rw [this]; exact ho
  · intro j; rw [dg_append_zero]; exact h.ok j
  · rw [dg_append_zero, dg_out (by omega)]; decide
  · rw [num_append_zero]; exact h.val

theorem or_put (a d : Nat) (ha : a < B64) (s : Nat) : bits .or .u64 (a : Int) (IntKind.u64.wrap ((d : Int) * 2 ^ s)) = ((a ||| d * 2 ^ s % 2 ^ 64 : Nat) : Int) := by
  have hp : 0 < (2 : Nat) ^ 64 := Nat.two_pow_pos _
  rw [wrap_shl, or_nat a _ ha (by rw [B64_pow]; exact Nat.mod_lt _ hp)]

theorem put3 (y d : Nat) (hy : y < B64) (hd : d < 65536) : bits .or .u64 (y : Int) ((d : Int) * 281474976710656) = ((y ||| d * 2 ^ (16 * 3) % 2 ^ 64 : Nat) : Int) := by
  have h : (d : Int) * 281474976710656 = IntKind.u64.wrap ((d : Int) * 2 ^ 48) := by
    rw [IntKind.wrap_u64, show (2 : Int) ^ 48 = 281474976710656 by decide +kernel]; omega
  rw [h]; exact or_put y d hy 48

theorem OutInv.at {w : World} {ys : List Nat} {i : Nat} {wr : World} {v : Value} {os : List Nat} (h : OutInv w ys i wr v os) : ∃ ao cap, v = .slice ao os.length cap ∧ os.length ≤ cap ∧ At .u64 wr ao os := by
  obtain ⟨_, ⟨hl, ho⟩, _⟩ := h
  rcases ho with ⟨rfl, h0⟩ | ⟨g, cap, cur, rfl, hg, hh, hn, _, hs, ht⟩
  · obtain rfl : os = [] := List.length_eq_zero_iff.1 h0
    exact ⟨none, 0, rfl, Nat.le_refl _, At.nil _ _ _⟩
  · refine ⟨_, cap, rfl, hn, .inr ⟨g, 0, rfl, lt_of_block hh, fun i hi => ?_⟩⟩
    simp only [World.cell?, hh]
    have hc : cur[i]? = (vals .u64 os)[i]? := by
      rw [← ht, List.getElem?_take_of_lt (by omega), Array.getElem?_toList]
    simp only [Option.isSome_none, Bool.false_eq_true, if_false, Nat.zero_add, hc]
    simp [vals, hi]

/-- When all digits are in, the limbs have no noughts on top, since the digits have none. -/
theorem OutInv.is {w : World} {ys : List Nat} {i : Nat} {wr : World} {v : Value} {os : List Nat} (h : OutInv w ys i wr v os) (hx : ys.length = i) (ty : Top ys) : Is B64 os (num 65536 ys) := by
  have hv : num B64 os = num 65536 ys := by rw [h.val, ← hx]; rfl
  refine ⟨h.ok, ?_, hv⟩
  intro n hn h0
  have hl := h.len
  have h4 : (65536 : Nat) ^ 4 = B64 := by decide +kernel
  have hlt : num B64 os < B64 ^ n := by
    unfold num
    rw [hn]
    simp only [V]
    rw [h0, Nat.zero_mul, Nat.add_zero]
    exact V_lt n (fun j _ => h.ok j)
  rcases i with _ | i
  · omega
  · have hge := num_ge (b := 65536) ty hx
    have : B64 ^ n ≤ 65536 ^ i := by
      rw [← h4, ← Nat.pow_mul]
      exact Nat.pow_le_pow_right (by omega) (by omega)
    omega

end Go.Proofs.YtckijnlolmbdiaaGreatDoor
