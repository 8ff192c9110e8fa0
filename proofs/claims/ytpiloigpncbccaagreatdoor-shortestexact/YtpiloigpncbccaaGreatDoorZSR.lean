/-
  The reference's calls over numbers, wherever their digits lie: quipuref01's and quipuref02's, and quipuref03's limb, Amount, Wide, Narrow, Bias.
  What quipuref03's Parts does, case by case.
  What quipuref03's Dec does: a number times a power of 10, as a Dec.
  What quipuref03's Exact does, and the walk of ShortestExact.
-/
import Derived.Test.YtpiloigpncbccaaGreatDoorZSD
import Derived.Test.YtpiloigpncbccaaGreatDoorZRText
import Derived.Test.YtpiloigpncbccaaGreatDoorZRMul
import Derived.Test.YtpiloigpncbccaaGreatDoorZRSub
import Derived.Test.YtpiloigpncbccaaGreatDoorIn
import Derived.Deep.RegionHeld3
namespace Go.Proofs.YtpiloigpncbccaaGreatDoor
open Go.RowKit

/-- v is a list of digits to the base 65536 without noughts on top, the number n. -/
def Nr (w : World) (v : Value) (n : Nat) : Prop := ∃ o c xs, v = .slice o (List.length xs) c ∧ xs.length ≤ c ∧ At .u32 w o xs ∧ Is 65536 xs n

theorem Nr.below {w w' : World} {v : Value} {n : Nat} (h : Nr w v n) (hb : Below w.heap.size w w') : Nr w' v n := by
  obtain ⟨o, c, xs, h1, h2, h4, h5⟩ := h
  exact ⟨o, c, xs, h1, h2, h4.below hb, h5⟩

theorem b64_16 (k : Nat) : B64 ^ k = 65536 ^ (4 * k) := by
  rw [Nat.pow_mul]; rfl

theorem len_of {xs : List Nat} {n k : Nat} (h : Is 65536 xs n) (hs : n < B64 ^ k) : xs.length ≤ 4 * k := len32 h (by rw [← b64_16]; exact hs)

theorem nr_len {xs : List Nat} {n : Nat} (h : Is 65536 xs n) (hs : Sm n) : xs.length ≤ 40000 := len_of h hs

def NrPost (w : World) (n : Nat) (e : Ending) (w' : World) : Prop := ∃ o c l, e = .returned (.slice o l c) ∧ Nr w' (.slice o l c) n ∧ Below w.heap.size w w'

theorem NrPost.of {w w' : World} {m n : Nat} {e : Ending} (h : RPost w m n e w') : NrPost w n e w' := by
  obtain ⟨o, c, ys, rfl, h1, h2, h3, _, h5⟩ := h
  exact ⟨o, c, ys.length, rfl, ⟨o, c, ys, rfl, h1, h2, h3⟩, h5⟩

theorem nr_mul (a b : Value) (x y : Nat) (w : World) (ha : Nr w a x) (hb : Nr w b y) (hx : Sm x) (hy : Sm y) : Calls Tryz.prog 26 #[a, b] w (NrPost w (x * y)) := by
  obtain ⟨o, c, xs, rfl, h1, h3, h4⟩ := ha
  obtain ⟨o', c', ys, rfl, h1', h3', h4'⟩ := hb
  have l1 := nr_len h4 hx
  have l2 := nr_len h4' hy
  refine (rmul_any o o' _ c _ c' xs ys w (by omega) (by omega) rfl rfl h3 h3' h4.1 h4'.1).mono ?_
  intro e w' h
  rw [h4.2.2, h4'.2.2] at h
  exact NrPost.of h

theorem nr_shl (a : Value) (x n : Nat) (w : World) (ha : Nr w a x) (hx : Sm x) (hn : n ≤ 65536) : Calls Tryz.prog 27 #[a, .int .i64 (n : Int)] w (NrPost w (x * 2 ^ n)) := by
  obtain ⟨o, c, xs, rfl, h1, h3, h4⟩ := ha
  have l1 := nr_len h4 hx
  refine (rshl_any o _ c n xs w hn h1 (by omega) rfl h3 h4.1).mono ?_
  intro e w' h
  rw [h4.2.2] at h
  exact NrPost.of h

theorem nr_pow5 (n : Int) (k : Nat) (w : World) (hn : n = (k : Int)) (hk : k ≤ 8192) : Calls Tryz.prog 25 #[.int .i64 5, .int .i64 n] w (NrPost w (5 ^ k)) := by
  subst hn
  exact (rpow5 k hk w).mono fun e w' h => NrPost.of h

theorem nr_text (a : Value) (x : Nat) (w : World) (ha : Nr w a x) (hx : Sm x) : Calls Tryz.prog 28 #[a] w fun e w' => e = .returned (.string ⟨(Lib.decDigits x).toArray⟩) ∧ Below w.heap.size w w' := by
  obtain ⟨o, c, xs, rfl, h1, h3, h4⟩ := ha
  have l1 := nr_len h4 hx
  exact rtext_any o _ c x xs w (by omega) rfl h3 h4

theorem row_new1 (w : World) (m : Nat) : At .u64 (w.alloc (.cells #[.int .u64 (m : Int)] 22)) (some ⟨w.heap.size, 0, none⟩) [m] := Row.at (k := .u64) (e := 22) (heap_alloc_new w _)

set_option maxHeartbeats 400000 in
theorem limb_call (m : Nat) (w : World) (hm : m < B64) : Calls Tryz.prog 37 #[.int .u64 (m : Int)] w (NrPost w m) := by
  have hat := hide (row_new1 w m)
  have hok : Hid (Ok B64 [m]) := by
    intro i
    rcases i with _ | i
    · exact hm
    · simp [dg]; decide
  have hnum : Hid (num B64 [m] = m) := by show num B64 [m] = m; simp [num, V, dg]
  clear hm
  go_enter Tryz.func37, Tryz.ntmps37
  go_wp2_with fail
  refine (in_any _ 1 1 [m] _ (by omega) rfl hat.out hok.out).mono ?_
  rintro e w1 ⟨o, c, ys, rfl, h1, h2, h3, _, h5⟩
  rw [hnum.out] at h3
  have FIN : Hid (NrPost w m (.returned (.slice o ys.length c)) w1) := ⟨o, c, ys.length, rfl, ⟨o, c, ys, rfl, h1, h2, h3⟩, ((Below.refl _ _).alloc (Nat.le_refl _) _).trans (h5.mono (by simp))⟩
  clear h1 h2 h3 h5
  go_wp2
  go_ret
  exact FIN.out

/-- A number and an exponent are answered. -/
def NrPair (w : World) (n : Nat) (ex : Int) (e : Ending) (w' : World) : Prop := ∃ o c l, e = .returned (.tuple #[.slice o l c, .int .i64 ex]) ∧ Nr w' (.slice o l c) n ∧ Below w.heap.size w w'

set_option maxHeartbeats 400000 in
theorem amount_call (oa : Option Addr) (la ca : Nat) (x : Nat) (n : Int) (w : World) (ha : Nr w (.slice oa la ca) x) (hx : Sm x) (h1 : -1080 ≤ n) (h2 : n ≤ 1080) :
    Calls Tryz.prog 36 #[.slice oa la ca, .int .i64 n] w (NrPair w (x * p2N n) (p2E n)) := by
  by_cases h0 : n < 0
  · obtain ⟨k, rfl⟩ : ∃ k : Nat, n = -(k : Int) := ⟨(-n).toNat, by omega⟩
    have e1 : p2N (-(k : Int)) = 5 ^ k := by unfold p2N; rw [if_pos h0, show (-(-(k : Int))).toNat = k by omega]
    have e2 : p2E (-(k : Int)) = -(k : Int) := by unfold p2E; rw [if_pos h0]
    have hs : Sm (5 ^ k) := by rw [← e1]; exact p2N_sm 1081 (by omega) (by omega) (by omega)
    rw [e1, e2]
    have HA := hide ha
    have HS : Hid (Sm x ∧ Sm (5 ^ k)) := ⟨hx, hs⟩
    clear e1 e2 ha hx hs
    go_enter Tryz.func36, Tryz.ntmps36
    go_wp2_with fail
    refine (nr_pow5 _ k _ (by omega) (by omega)).mono ?_
    rintro e w1 ⟨o1, c1, l1, rfl, g1, b1⟩
    have G := hide (nr_mul _ _ x (5 ^ k) w1 (HA.out.below b1) g1 HS.out.1 HS.out.2)
    have HB := hide b1
    clear g1 b1
    go_wp2_with fail
    refine G.out.mono ?_
    rintro e w2 ⟨o2, c2, l2, rfl, g2, b2⟩
    have FIN : Hid (NrPair w (x * 5 ^ k) (-(k : Int)) (.returned (.tuple #[.slice o2 l2 c2, .int .i64 (-(k : Int))])) w2) := ⟨o2, c2, l2, rfl, g2, HB.out.trans (b2.mono HB.out.size)⟩
    clear g2 b2 G HB
    go_wp2
    go_ret2
    exact FIN.out
  · obtain ⟨k, rfl⟩ : ∃ k : Nat, n = (k : Int) := ⟨n.toNat, by omega⟩
    have e1 : p2N (k : Int) = 2 ^ k := by unfold p2N; rw [if_neg h0, Int.toNat_natCast]
    have e2 : p2E (k : Int) = 0 := by unfold p2E; rw [if_neg h0]
    rw [e1, e2]
    have G := hide (nr_shl _ x k w ha hx (by omega))
    clear e1 e2 ha hx
    go_enter Tryz.func36, Tryz.ntmps36
    go_wp2_with fail
    refine G.out.mono ?_
    rintro e w2 ⟨o2, c2, l2, rfl, g2, b2⟩
    have FIN : Hid (NrPair w (x * 2 ^ k) 0 (.returned (.tuple #[.slice o2 l2 c2, .int .i64 0])) w2) := ⟨o2, c2, l2, rfl, g2, b2⟩
    clear g2 b2 G
    go_wp2
    go_ret2
    exact FIN.out

/-- A kind of floats. -/
abbrev k64 : Value := .agg #[.int .i64 52, .int .i64 11]
abbrev k32 : Value := .agg #[.int .i64 23, .int .i64 8]

theorem wide_any (w : World) : Calls Tryz.prog 10 #[] w fun e w' => e = .returned k64 ∧ Below w.heap.size w w' := by
  go_enter Tryz.func10, Tryz.ntmps10
  go_wp2
  go_returns
  exact ⟨rfl, (Below.refl _ _).alloc (Nat.le_refl _) _⟩
theorem narrow_any (w : World) : Calls Tryz.prog 13 #[] w fun e w' => e = .returned k32 ∧ Below w.heap.size w w' := by
  go_enter Tryz.func13, Tryz.ntmps13
  go_wp2
  go_returns
  exact ⟨rfl, (Below.refl _ _).alloc (Nat.le_refl _) _⟩

set_option maxHeartbeats 400000 in
theorem bias64 (w : World) : Calls Tryz.prog 49 #[k64] w fun e w' => e = .returned (.int .i64 1074) ∧ Below w.heap.size w w' := by
  go_enter Tryz.func49, Tryz.ntmps49
  go_wp2
  go_region
  go_wp2
  go_ret
  exact ⟨rfl, ((Below.refl _ _).alloc (Nat.le_refl _) _).drew⟩
set_option maxHeartbeats 400000 in
theorem bias32 (w : World) : Calls Tryz.prog 49 #[k32] w fun e w' => e = .returned (.int .i64 149) ∧ Below w.heap.size w w' := by
  go_enter Tryz.func49, Tryz.ntmps49
  go_wp2
  go_region
  go_wp2
  go_ret
  exact ⟨rfl, ((Below.refl _ _).alloc (Nat.le_refl _) _).drew⟩

end Go.Proofs.YtpiloigpncbccaaGreatDoor

namespace Go.Proofs.YtpiloigpncbccaaGreatDoor
open Go.RowKit

theorem results_tmp4 {fn : Func} {t u v x : Tmp} (h : fn.results = #[.tmp t, .tmp u, .tmp v, .tmp x]) (tmps : Array Value) (P : Program) (w : World) :
    (results fn tmps).run P w = .ok (.tuple #[tmps.getD t undef, tmps.getD u undef, tmps.getD v undef, tmps.getD x undef]) w := by
  simp [results, h]

set_option maxHeartbeats 2000000 in
theorem parts64_inf0 (b x m : Nat) (w : World) (_hxl : x ≤ 2047) (mx : bits .and .u64 ((b : Int) / 4503599627370496) 2047 = (x : Int)) (mm : bits .and .u64 (b : Int) 4503599627370495 = (m : Int)) (ms : bits .and .u64 ((b : Int) / 9223372036854775808) 1 = 0) (hx : (x : Int) = 2047) (hm : (m : Int) = 0) :
    Calls Tryz.prog 23 #[k64, .int .u64 (b : Int)] w fun e w' => e = .returned (.tuple #[.bool false, .int .i64 1, .int .u64 0, .int .i64 0]) ∧ Below w.heap.size w w' := by
  have blk := hide (Blk.new w #[.int .i64 52, .int .i64 11] 28)
  have HB0 : Hid (Below w.heap.size w (w.alloc (.cells #[.int .i64 52, .int .i64 11] 28))) := (Below.refl _ _).alloc (Nat.le_refl _) _
  go_enter Tryz.func23, Tryz.ntmps23
  go_wp2
  go_region
  go_wp2
  refine bodyPost_ret (results_tmp4 rfl _ _ _) rfl ?_
  exact ⟨rfl, HB0.out.drew⟩

set_option maxHeartbeats 2000000 in
theorem parts64_inf1 (b x m : Nat) (w : World) (_hxl : x ≤ 2047) (mx : bits .and .u64 ((b : Int) / 4503599627370496) 2047 = (x : Int)) (mm : bits .and .u64 (b : Int) 4503599627370495 = (m : Int)) (ms : bits .and .u64 ((b : Int) / 9223372036854775808) 1 = 1) (hx : (x : Int) = 2047) (hm : (m : Int) = 0) :
    Calls Tryz.prog 23 #[k64, .int .u64 (b : Int)] w fun e w' => e = .returned (.tuple #[.bool true, .int .i64 1, .int .u64 0, .int .i64 0]) ∧ Below w.heap.size w w' := by
  have blk := hide (Blk.new w #[.int .i64 52, .int .i64 11] 28)
  have HB0 : Hid (Below w.heap.size w (w.alloc (.cells #[.int .i64 52, .int .i64 11] 28))) := (Below.refl _ _).alloc (Nat.le_refl _) _
  go_enter Tryz.func23, Tryz.ntmps23
  go_wp2
  go_region
  go_wp2
  refine bodyPost_ret (results_tmp4 rfl _ _ _) rfl ?_
  exact ⟨rfl, HB0.out.drew⟩

set_option maxHeartbeats 2000000 in
theorem parts64_nan0 (b x m : Nat) (w : World) (_hxl : x ≤ 2047) (mx : bits .and .u64 ((b : Int) / 4503599627370496) 2047 = (x : Int)) (mm : bits .and .u64 (b : Int) 4503599627370495 = (m : Int)) (ms : bits .and .u64 ((b : Int) / 9223372036854775808) 1 = 0) (hx : (x : Int) = 2047) (hm : ¬ (m : Int) = 0) :
    Calls Tryz.prog 23 #[k64, .int .u64 (b : Int)] w fun e w' => e = .returned (.tuple #[.bool false, .int .i64 2, .int .u64 0, .int .i64 0]) ∧ Below w.heap.size w w' := by
  have blk := hide (Blk.new w #[.int .i64 52, .int .i64 11] 28)
  have HB0 : Hid (Below w.heap.size w (w.alloc (.cells #[.int .i64 52, .int .i64 11] 28))) := (Below.refl _ _).alloc (Nat.le_refl _) _
  go_enter Tryz.func23, Tryz.ntmps23
  go_wp2
  go_region
  go_wp2
  refine bodyPost_ret (results_tmp4 rfl _ _ _) rfl ?_
  exact ⟨rfl, HB0.out.drew⟩

set_option maxHeartbeats 2000000 in
theorem parts64_nan1 (b x m : Nat) (w : World) (_hxl : x ≤ 2047) (mx : bits .and .u64 ((b : Int) / 4503599627370496) 2047 = (x : Int)) (mm : bits .and .u64 (b : Int) 4503599627370495 = (m : Int)) (ms : bits .and .u64 ((b : Int) / 9223372036854775808) 1 = 1) (hx : (x : Int) = 2047) (hm : ¬ (m : Int) = 0) :
    Calls Tryz.prog 23 #[k64, .int .u64 (b : Int)] w fun e w' => e = .returned (.tuple #[.bool false, .int .i64 2, .int .u64 0, .int .i64 0]) ∧ Below w.heap.size w w' := by
  have blk := hide (Blk.new w #[.int .i64 52, .int .i64 11] 28)
  have HB0 : Hid (Below w.heap.size w (w.alloc (.cells #[.int .i64 52, .int .i64 11] 28))) := (Below.refl _ _).alloc (Nat.le_refl _) _
  go_enter Tryz.func23, Tryz.ntmps23
  go_wp2
  go_region
  go_wp2
  refine bodyPost_ret (results_tmp4 rfl _ _ _) rfl ?_
  exact ⟨rfl, HB0.out.drew⟩

set_option maxHeartbeats 2000000 in
theorem parts64_sub0 (b x m : Nat) (w : World) (_hxl : x ≤ 2047) (mx : bits .and .u64 ((b : Int) / 4503599627370496) 2047 = (x : Int)) (mm : bits .and .u64 (b : Int) 4503599627370495 = (m : Int)) (ms : bits .and .u64 ((b : Int) / 9223372036854775808) 1 = 0) (hx : (x : Int) = 0) :
    Calls Tryz.prog 23 #[k64, .int .u64 (b : Int)] w fun e w' => e = .returned (.tuple #[.bool false, .int .i64 0, .int .u64 (m : Int), .int .i64 (-1074)]) ∧ Below w.heap.size w w' := by
  have blk := hide (Blk.new w #[.int .i64 52, .int .i64 11] 28)
  have HB0 : Hid (Below w.heap.size w (w.alloc (.cells #[.int .i64 52, .int .i64 11] 28))) := (Below.refl _ _).alloc (Nat.le_refl _) _
  go_enter Tryz.func23, Tryz.ntmps23
  go_wp2
  go_region
  go_wp2_with fail
  refine (bias64 _).mono ?_
  rintro e w1 ⟨rfl, hb1⟩
  have HB1 := hide (HB0.out.drew.trans (hb1.mono HB0.out.drew.size))
  clear hb1
  go_wp2
  refine bodyPost_ret (results_tmp4 rfl _ _ _) rfl ?_
  exact ⟨rfl, HB1.out⟩

set_option maxHeartbeats 2000000 in
theorem parts64_sub1 (b x m : Nat) (w : World) (_hxl : x ≤ 2047) (mx : bits .and .u64 ((b : Int) / 4503599627370496) 2047 = (x : Int)) (mm : bits .and .u64 (b : Int) 4503599627370495 = (m : Int)) (ms : bits .and .u64 ((b : Int) / 9223372036854775808) 1 = 1) (hx : (x : Int) = 0) :
    Calls Tryz.prog 23 #[k64, .int .u64 (b : Int)] w fun e w' => e = .returned (.tuple #[.bool true, .int .i64 0, .int .u64 (m : Int), .int .i64 (-1074)]) ∧ Below w.heap.size w w' := by
  have blk := hide (Blk.new w #[.int .i64 52, .int .i64 11] 28)
  have HB0 : Hid (Below w.heap.size w (w.alloc (.cells #[.int .i64 52, .int .i64 11] 28))) := (Below.refl _ _).alloc (Nat.le_refl _) _
  go_enter Tryz.func23, Tryz.ntmps23
  go_wp2
  go_region
  go_wp2_with fail
  refine (bias64 _).mono ?_
  rintro e w1 ⟨rfl, hb1⟩
  have HB1 := hide (HB0.out.drew.trans (hb1.mono HB0.out.drew.size))
  clear hb1
  go_wp2
  refine bodyPost_ret (results_tmp4 rfl _ _ _) rfl ?_
  exact ⟨rfl, HB1.out⟩

set_option maxHeartbeats 2000000 in
theorem parts64_norm0 (b x m : Nat) (w : World) (_hxl : x ≤ 2047) (mx : bits .and .u64 ((b : Int) / 4503599627370496) 2047 = (x : Int)) (mm : bits .and .u64 (b : Int) 4503599627370495 = (m : Int)) (ms : bits .and .u64 ((b : Int) / 9223372036854775808) 1 = 0) (hx : ¬ (x : Int) = 2047) (hx0 : ¬ (x : Int) = 0) (hm : m < 4503599627370496) :
    Calls Tryz.prog 23 #[k64, .int .u64 (b : Int)] w fun e w' => e = .returned (.tuple #[.bool false, .int .i64 0, .int .u64 ((4503599627370496 + m : Nat) : Int), .int .i64 ((x : Int) - 1 - 1074)]) ∧ Below w.heap.size w w' := by
  have W1 : Hid (IntKind.i64.wrap (IntKind.i64.wrap ((x : Int) - 1) - 1074) = (x : Int) - 1 - 1074) := by
    show IntKind.i64.wrap (IntKind.i64.wrap ((x : Int) - 1) - 1074) = (x : Int) - 1 - 1074
    rw [IntKind.wrap_i64, IntKind.wrap_i64]; omega
  have OR : Hid (bits .or .u64 (m : Int) (IntKind.u64.wrap 4503599627370496) = ((4503599627370496 + m : Nat) : Int)) := by
    show bits .or .u64 (m : Int) (IntKind.u64.wrap 4503599627370496) = ((4503599627370496 + m : Nat) : Int)
    rw [show IntKind.u64.wrap 4503599627370496 = 4503599627370496 by decide]
    have h := or_low (y := m) (a := 1) (s := 52) (by rw [show (2 : Nat) ^ 52 = 4503599627370496 by decide]; exact hm)
    have h2 := bits_or_u64_nat m 4503599627370496 (by omega) (by omega)
    rw [show (1 * 2 ^ 52 : Nat) = 4503599627370496 by decide] at h
    rw [h] at h2
    exact h2.trans (by congr 1; omega)
  clear hm
  have blk := hide (Blk.new w #[.int .i64 52, .int .i64 11] 28)
  have HB0 : Hid (Below w.heap.size w (w.alloc (.cells #[.int .i64 52, .int .i64 11] 28))) := (Below.refl _ _).alloc (Nat.le_refl _) _
  go_enter Tryz.func23, Tryz.ntmps23
  go_wp2
  go_region
  go_wp2_with fail
  obtain ⟨W, hW⟩ : ∃ W, W = (w.alloc (.cells #[.int .i64 52, .int .i64 11] 28)).drew := ⟨_, rfl⟩
  have BL : Hid (Blk W w.heap.size #[.int .i64 52, .int .i64 11] 28) := by rw [hW]; exact blk.out
  have HBW : Hid (Below w.heap.size w W) := by rw [hW]; exact HB0.out.drew
  rw [← hW]
  clear hW blk HB0
  have c0 : W.cell? ⟨w.heap.size, 0, none⟩ = some (.int .i64 52) := BL.out.cell 0
  have c1 : W.cell? ⟨w.heap.size, 1, none⟩ = some (.int .i64 11) := BL.out.cell 1
  have b0 : Hid (Below W.heap.size W W.drew) := bdrew' W
  have H : Hid (Calls Tryz.prog 49 #[.agg #[.int .i64 52, .int .i64 11]] W.drew fun e w' => e = .returned (.int .i64 1074) ∧ Hid (Below w.heap.size w w') ∧ w'.cell? ⟨w.heap.size, 0, none⟩ = some (.int .i64 52) ∧ w'.cell? ⟨w.heap.size, 1, none⟩ = some (.int .i64 11)) := by
    refine (bias64 W.drew).mono ?_
    rintro e w' ⟨rfl, hb⟩
    have hbb := b0.out.trans (hb.mono b0.out.size)
    have q := BL.out.below hbb BL.out.lt
    exact ⟨rfl, HBW.out.trans (hbb.mono HBW.out.size), q.cell 0, q.cell 1⟩
  have mk0 : True := trivial
  go_region_held3 (fun w' => w'.cell? ⟨w.heap.size, 0, none⟩ = some (.int .i64 52) ∧ w'.cell? ⟨w.heap.size, 1, none⟩ = some (.int .i64 11)) (go_keep) (first
    | (clear mk0; go_at_call 49; refine H.out.mono ?_; rintro e w2 ⟨rfl, b2, k0, k1⟩; have mk1 : True := trivial))
  all_goals (
    go_wp2
    refine bodyPost_ret (results_tmp4 rfl _ _ _) rfl ?_
    refine ⟨?_, b2.out⟩
    show Ending.returned (.tuple #[.bool false, .int .i64 0, .int .u64 (bits .or .u64 (m : Int) (IntKind.u64.wrap 4503599627370496)), .int .i64 (IntKind.i64.wrap (IntKind.i64.wrap ((x : Int) - 1) - 1074))]) = _
    rw [W1.out, OR.out])

set_option maxHeartbeats 2000000 in
theorem parts64_norm1 (b x m : Nat) (w : World) (_hxl : x ≤ 2047) (mx : bits .and .u64 ((b : Int) / 4503599627370496) 2047 = (x : Int)) (mm : bits .and .u64 (b : Int) 4503599627370495 = (m : Int)) (ms : bits .and .u64 ((b : Int) / 9223372036854775808) 1 = 1) (hx : ¬ (x : Int) = 2047) (hx0 : ¬ (x : Int) = 0) (hm : m < 4503599627370496) :
    Calls Tryz.prog 23 #[k64, .int .u64 (b : Int)] w fun e w' => e = .returned (.tuple #[.bool true, .int .i64 0, .int .u64 ((4503599627370496 + m : Nat) : Int), .int .i64 ((x : Int) - 1 - 1074)]) ∧ Below w.heap.size w w' := by
  have W1 : Hid (IntKind.i64.wrap (IntKind.i64.wrap ((x : Int) - 1) - 1074) = (x : Int) - 1 - 1074) := by
    show IntKind.i64.wrap (IntKind.i64.wrap ((x : Int) - 1) - 1074) = (x : Int) - 1 - 1074
    rw [IntKind.wrap_i64, IntKind.wrap_i64]; omega
  have OR : Hid (bits .or .u64 (m : Int) (IntKind.u64.wrap 4503599627370496) = ((4503599627370496 + m : Nat) : Int)) := by
    show bits .or .u64 (m : Int) (IntKind.u64.wrap 4503599627370496) = ((4503599627370496 + m : Nat) : Int)
    rw [show IntKind.u64.wrap 4503599627370496 = 4503599627370496 by decide]
    have h := or_low (y := m) (a := 1) (s := 52) (by rw [show (2 : Nat) ^ 52 = 4503599627370496 by decide]; exact hm)
    have h2 := bits_or_u64_nat m 4503599627370496 (by omega) (by omega)
    rw [show (1 * 2 ^ 52 : Nat) = 4503599627370496 by decide] at h
    rw [h] at h2
    exact h2.trans (by congr 1; omega)
  clear hm
  have blk := hide (Blk.new w #[.int .i64 52, .int .i64 11] 28)
  have HB0 : Hid (Below w.heap.size w (w.alloc (.cells #[.int .i64 52, .int .i64 11] 28))) := (Below.refl _ _).alloc (Nat.le_refl _) _
  go_enter Tryz.func23, Tryz.ntmps23
  go_wp2
  go_region
  go_wp2_with fail
  obtain ⟨W, hW⟩ : ∃ W, W = (w.alloc (.cells #[.int .i64 52, .int .i64 11] 28)).drew := ⟨_, rfl⟩
  have BL : Hid (Blk W w.heap.size #[.int .i64 52, .int .i64 11] 28) := by rw [hW]; exact blk.out
  have HBW : Hid (Below w.heap.size w W) := by rw [hW]; exact HB0.out.drew
  rw [← hW]
  clear hW blk HB0
  have c0 : W.cell? ⟨w.heap.size, 0, none⟩ = some (.int .i64 52) := BL.out.cell 0
  have c1 : W.cell? ⟨w.heap.size, 1, none⟩ = some (.int .i64 11) := BL.out.cell 1
  have b0 : Hid (Below W.heap.size W W.drew) := bdrew' W
  have H : Hid (Calls Tryz.prog 49 #[.agg #[.int .i64 52, .int .i64 11]] W.drew fun e w' => e = .returned (.int .i64 1074) ∧ Hid (Below w.heap.size w w') ∧ w'.cell? ⟨w.heap.size, 0, none⟩ = some (.int .i64 52) ∧ w'.cell? ⟨w.heap.size, 1, none⟩ = some (.int .i64 11)) := by
    refine (bias64 W.drew).mono ?_
    rintro e w' ⟨rfl, hb⟩
    have hbb := b0.out.trans (hb.mono b0.out.size)
    have q := BL.out.below hbb BL.out.lt
    exact ⟨rfl, HBW.out.trans (hbb.mono HBW.out.size), q.cell 0, q.cell 1⟩
  have mk0 : True := trivial
  go_region_held3 (fun w' => w'.cell? ⟨w.heap.size, 0, none⟩ = some (.int .i64 52) ∧ w'.cell? ⟨w.heap.size, 1, none⟩ = some (.int .i64 11)) (go_keep) (first
    | (clear mk0; go_at_call 49; refine H.out.mono ?_; rintro e w2 ⟨rfl, b2, k0, k1⟩; have mk1 : True := trivial))
  all_goals (
    go_wp2
    refine bodyPost_ret (results_tmp4 rfl _ _ _) rfl ?_
    refine ⟨?_, b2.out⟩
    show Ending.returned (.tuple #[.bool true, .int .i64 0, .int .u64 (bits .or .u64 (m : Int) (IntKind.u64.wrap 4503599627370496)), .int .i64 (IntKind.i64.wrap (IntKind.i64.wrap ((x : Int) - 1) - 1074))]) = _
    rw [W1.out, OR.out])

set_option maxHeartbeats 2000000 in
theorem parts32_inf0 (b x m : Nat) (w : World) (_hxl : x ≤ 255) (mx : bits .and .u64 ((b : Int) / 8388608) 255 = (x : Int)) (mm : bits .and .u64 (b : Int) 8388607 = (m : Int)) (ms : bits .and .u64 ((b : Int) / 2147483648) 1 = 0) (hx : (x : Int) = 255) (hm : (m : Int) = 0) :
    Calls Tryz.prog 23 #[k32, .int .u64 (b : Int)] w fun e w' => e = .returned (.tuple #[.bool false, .int .i64 1, .int .u64 0, .int .i64 0]) ∧ Below w.heap.size w w' := by
  have blk := hide (Blk.new w #[.int .i64 23, .int .i64 8] 28)
  have HB0 : Hid (Below w.heap.size w (w.alloc (.cells #[.int .i64 23, .int .i64 8] 28))) := (Below.refl _ _).alloc (Nat.le_refl _) _
  go_enter Tryz.func23, Tryz.ntmps23
  go_wp2
  go_region
  go_wp2
  refine bodyPost_ret (results_tmp4 rfl _ _ _) rfl ?_
  exact ⟨rfl, HB0.out.drew⟩

set_option maxHeartbeats 2000000 in
theorem parts32_inf1 (b x m : Nat) (w : World) (_hxl : x ≤ 255) (mx : bits .and .u64 ((b : Int) / 8388608) 255 = (x : Int)) (mm : bits .and .u64 (b : Int) 8388607 = (m : Int)) (ms : bits .and .u64 ((b : Int) / 2147483648) 1 = 1) (hx : (x : Int) = 255) (hm : (m : Int) = 0) :
    Calls Tryz.prog 23 #[k32, .int .u64 (b : Int)] w fun e w' => e = .returned (.tuple #[.bool true, .int .i64 1, .int .u64 0, .int .i64 0]) ∧ Below w.heap.size w w' := by
  have blk := hide (Blk.new w #[.int .i64 23, .int .i64 8] 28)
  have HB0 : Hid (Below w.heap.size w (w.alloc (.cells #[.int .i64 23, .int .i64 8] 28))) := (Below.refl _ _).alloc (Nat.le_refl _) _
  go_enter Tryz.func23, Tryz.ntmps23
  go_wp2
  go_region
  go_wp2
  refine bodyPost_ret (results_tmp4 rfl _ _ _) rfl ?_
  exact ⟨rfl, HB0.out.drew⟩

set_option maxHeartbeats 2000000 in
theorem parts32_nan0 (b x m : Nat) (w : World) (_hxl : x ≤ 255) (mx : bits .and .u64 ((b : Int) / 8388608) 255 = (x : Int)) (mm : bits .and .u64 (b : Int) 8388607 = (m : Int)) (ms : bits .and .u64 ((b : Int) / 2147483648) 1 = 0) (hx : (x : Int) = 255) (hm : ¬ (m : Int) = 0) :
    Calls Tryz.prog 23 #[k32, .int .u64 (b : Int)] w fun e w' => e = .returned (.tuple #[.bool false, .int .i64 2, .int .u64 0, .int .i64 0]) ∧ Below w.heap.size w w' := by
  have blk := hide (Blk.new w #[.int .i64 23, .int .i64 8] 28)
  have HB0 : Hid (Below w.heap.size w (w.alloc (.cells #[.int .i64 23, .int .i64 8] 28))) := (Below.refl _ _).alloc (Nat.le_refl _) _
  go_enter Tryz.func23, Tryz.ntmps23
  go_wp2
  go_region
  go_wp2
  refine bodyPost_ret (results_tmp4 rfl _ _ _) rfl ?_
  exact ⟨rfl, HB0.out.drew⟩

set_option maxHeartbeats 2000000 in
theorem parts32_nan1 (b x m : Nat) (w : World) (_hxl : x ≤ 255) (mx : bits .and .u64 ((b : Int) / 8388608) 255 = (x : Int)) (mm : bits .and .u64 (b : Int) 8388607 = (m : Int)) (ms : bits .and .u64 ((b : Int) / 2147483648) 1 = 1) (hx : (x : Int) = 255) (hm : ¬ (m : Int) = 0) :
    Calls Tryz.prog 23 #[k32, .int .u64 (b : Int)] w fun e w' => e = .returned (.tuple #[.bool false, .int .i64 2, .int .u64 0, .int .i64 0]) ∧ Below w.heap.size w w' := by
  have blk := hide (Blk.new w #[.int .i64 23, .int .i64 8] 28)
  have HB0 : Hid (Below w.heap.size w (w.alloc (.cells #[.int .i64 23, .int .i64 8] 28))) := (Below.refl _ _).alloc (Nat.le_refl _) _
  go_enter Tryz.func23, Tryz.ntmps23
  go_wp2
  go_region
  go_wp2
  refine bodyPost_ret (results_tmp4 rfl _ _ _) rfl ?_
  exact ⟨rfl, HB0.out.drew⟩

set_option maxHeartbeats 2000000 in
theorem parts32_sub0 (b x m : Nat) (w : World) (_hxl : x ≤ 255) (mx : bits .and .u64 ((b : Int) / 8388608) 255 = (x : Int)) (mm : bits .and .u64 (b : Int) 8388607 = (m : Int)) (ms : bits .and .u64 ((b : Int) / 2147483648) 1 = 0) (hx : (x : Int) = 0) :
    Calls Tryz.prog 23 #[k32, .int .u64 (b : Int)] w fun e w' => e = .returned (.tuple #[.bool false, .int .i64 0, .int .u64 (m : Int), .int .i64 (-149)]) ∧ Below w.heap.size w w' := by
  have blk := hide (Blk.new w #[.int .i64 23, .int .i64 8] 28)
  have HB0 : Hid (Below w.heap.size w (w.alloc (.cells #[.int .i64 23, .int .i64 8] 28))) := (Below.refl _ _).alloc (Nat.le_refl _) _
  go_enter Tryz.func23, Tryz.ntmps23
  go_wp2
  go_region
  go_wp2_with fail
  refine (bias32 _).mono ?_
  rintro e w1 ⟨rfl, hb1⟩
  have HB1 := hide (HB0.out.drew.trans (hb1.mono HB0.out.drew.size))
  clear hb1
  go_wp2
  refine bodyPost_ret (results_tmp4 rfl _ _ _) rfl ?_
  exact ⟨rfl, HB1.out⟩

set_option maxHeartbeats 2000000 in
theorem parts32_sub1 (b x m : Nat) (w : World) (_hxl : x ≤ 255) (mx : bits .and .u64 ((b : Int) / 8388608) 255 = (x : Int)) (mm : bits .and .u64 (b : Int) 8388607 = (m : Int)) (ms : bits .and .u64 ((b : Int) / 2147483648) 1 = 1) (hx : (x : Int) = 0) :
    Calls Tryz.prog 23 #[k32, .int .u64 (b : Int)] w fun e w' => e = .returned (.tuple #[.bool true, .int .i64 0, .int .u64 (m : Int), .int .i64 (-149)]) ∧ Below w.heap.size w w' := by
  have blk := hide (Blk.new w #[.int .i64 23, .int .i64 8] 28)
  have HB0 : Hid (Below w.heap.size w (w.alloc (.cells #[.int .i64 23, .int .i64 8] 28))) := (Below.refl _ _).alloc (Nat.le_refl _) _
  go_enter Tryz.func23, Tryz.ntmps23
  go_wp2
  go_region
  go_wp2_with fail
  refine (bias32 _).mono ?_
  rintro e w1 ⟨rfl, hb1⟩
  have HB1 := hide (HB0.out.drew.trans (hb1.mono HB0.out.drew.size))
  clear hb1
  go_wp2
  refine bodyPost_ret (results_tmp4 rfl _ _ _) rfl ?_
  exact ⟨rfl, HB1.out⟩

set_option maxHeartbeats 2000000 in
theorem parts32_norm0 (b x m : Nat) (w : World) (_hxl : x ≤ 255) (mx : bits .and .u64 ((b : Int) / 8388608) 255 = (x : Int)) (mm : bits .and .u64 (b : Int) 8388607 = (m : Int)) (ms : bits .and .u64 ((b : Int) / 2147483648) 1 = 0) (hx : ¬ (x : Int) = 255) (hx0 : ¬ (x : Int) = 0) (hm : m < 8388608) :
    Calls Tryz.prog 23 #[k32, .int .u64 (b : Int)] w fun e w' => e = .returned (.tuple #[.bool false, .int .i64 0, .int .u64 ((8388608 + m : Nat) : Int), .int .i64 ((x : Int) - 1 - 149)]) ∧ Below w.heap.size w w' := by
  have W1 : Hid (IntKind.i64.wrap (IntKind.i64.wrap ((x : Int) - 1) - 149) = (x : Int) - 1 - 149) := by
    show IntKind.i64.wrap (IntKind.i64.wrap ((x : Int) - 1) - 149) = (x : Int) - 1 - 149
    rw [IntKind.wrap_i64, IntKind.wrap_i64]; omega
  have OR : Hid (bits .or .u64 (m : Int) (IntKind.u64.wrap 8388608) = ((8388608 + m : Nat) : Int)) := by
    show bits .or .u64 (m : Int) (IntKind.u64.wrap 8388608) = ((8388608 + m : Nat) : Int)
    rw [show IntKind.u64.wrap 8388608 = 8388608 by decide]
    have h := or_low (y := m) (a := 1) (s := 23) (by rw [show (2 : Nat) ^ 23 = 8388608 by decide]; exact hm)
    have h2 := bits_or_u64_nat m 8388608 (by omega) (by omega)
    rw [show (1 * 2 ^ 23 : Nat) = 8388608 by decide] at h
    rw [h] at h2
    exact h2.trans (by congr 1; omega)
  clear hm
  have blk := hide (Blk.new w #[.int .i64 23, .int .i64 8] 28)
  have HB0 : Hid (Below w.heap.size w (w.alloc (.cells #[.int .i64 23, .int .i64 8] 28))) := (Below.refl _ _).alloc (Nat.le_refl _) _
  go_enter Tryz.func23, Tryz.ntmps23
  go_wp2
  go_region
  go_wp2_with fail
  obtain ⟨W, hW⟩ : ∃ W, W = (w.alloc (.cells #[.int .i64 23, .int .i64 8] 28)).drew := ⟨_, rfl⟩
  have BL : Hid (Blk W w.heap.size #[.int .i64 23, .int .i64 8] 28) := by rw [hW]; exact blk.out
  have HBW : Hid (Below w.heap.size w W) := by rw [hW]; exact HB0.out.drew
  rw [← hW]
  clear hW blk HB0
  have c0 : W.cell? ⟨w.heap.size, 0, none⟩ = some (.int .i64 23) := BL.out.cell 0
  have c1 : W.cell? ⟨w.heap.size, 1, none⟩ = some (.int .i64 8) := BL.out.cell 1
  have b0 : Hid (Below W.heap.size W W.drew) := bdrew' W
  have H : Hid (Calls Tryz.prog 49 #[.agg #[.int .i64 23, .int .i64 8]] W.drew fun e w' => e = .returned (.int .i64 149) ∧ Hid (Below w.heap.size w w') ∧ w'.cell? ⟨w.heap.size, 0, none⟩ = some (.int .i64 23) ∧ w'.cell? ⟨w.heap.size, 1, none⟩ = some (.int .i64 8)) := by
    refine (bias32 W.drew).mono ?_
    rintro e w' ⟨rfl, hb⟩
    have hbb := b0.out.trans (hb.mono b0.out.size)
    have q := BL.out.below hbb BL.out.lt
    exact ⟨rfl, HBW.out.trans (hbb.mono HBW.out.size), q.cell 0, q.cell 1⟩
  have mk0 : True := trivial
  go_region_held3 (fun w' => w'.cell? ⟨w.heap.size, 0, none⟩ = some (.int .i64 23) ∧ w'.cell? ⟨w.heap.size, 1, none⟩ = some (.int .i64 8)) (go_keep) (first
    | (clear mk0; go_at_call 49; refine H.out.mono ?_; rintro e w2 ⟨rfl, b2, k0, k1⟩; have mk1 : True := trivial))
  all_goals (
    go_wp2
    refine bodyPost_ret (results_tmp4 rfl _ _ _) rfl ?_
    refine ⟨?_, b2.out⟩
    show Ending.returned (.tuple #[.bool false, .int .i64 0, .int .u64 (bits .or .u64 (m : Int) (IntKind.u64.wrap 8388608)), .int .i64 (IntKind.i64.wrap (IntKind.i64.wrap ((x : Int) - 1) - 149))]) = _
    rw [W1.out, OR.out])

set_option maxHeartbeats 2000000 in
theorem parts32_norm1 (b x m : Nat) (w : World) (_hxl : x ≤ 255) (mx : bits .and .u64 ((b : Int) / 8388608) 255 = (x : Int)) (mm : bits .and .u64 (b : Int) 8388607 = (m : Int)) (ms : bits .and .u64 ((b : Int) / 2147483648) 1 = 1) (hx : ¬ (x : Int) = 255) (hx0 : ¬ (x : Int) = 0) (hm : m < 8388608) :
    Calls Tryz.prog 23 #[k32, .int .u64 (b : Int)] w fun e w' => e = .returned (.tuple #[.bool true, .int .i64 0, .int .u64 ((8388608 + m : Nat) : Int), .int .i64 ((x : Int) - 1 - 149)]) ∧ Below w.heap.size w w' := by
  have W1 : Hid (IntKind.i64.wrap (IntKind.i64.wrap ((x : Int) - 1) - 149) = (x : Int) - 1 - 149) := by
    show IntKind.i64.wrap (IntKind.i64.wrap ((x : Int) - 1) - 149) = (x : Int) - 1 - 149
    rw [IntKind.wrap_i64, IntKind.wrap_i64]; omega
  have OR : Hid (bits .or .u64 (m : Int) (IntKind.u64.wrap 8388608) = ((8388608 + m : Nat) : Int)) := by
    show bits .or .u64 (m : Int) (IntKind.u64.wrap 8388608) = ((8388608 + m : Nat) : Int)
    rw [show IntKind.u64.wrap 8388608 = 8388608 by decide]
    have h := or_low (y := m) (a := 1) (s := 23) (by rw [show (2 : Nat) ^ 23 = 8388608 by decide]; exact hm)
    have h2 := bits_or_u64_nat m 8388608 (by omega) (by omega)
    rw [show (1 * 2 ^ 23 : Nat) = 8388608 by decide] at h
    rw [h] at h2
    exact h2.trans (by congr 1; omega)
  clear hm
  have blk := hide (Blk.new w #[.int .i64 23, .int .i64 8] 28)
  have HB0 : Hid (Below w.heap.size w (w.alloc (.cells #[.int .i64 23, .int .i64 8] 28))) := (Below.refl _ _).alloc (Nat.le_refl _) _
  go_enter Tryz.func23, Tryz.ntmps23
  go_wp2
  go_region
  go_wp2_with fail
  obtain ⟨W, hW⟩ : ∃ W, W = (w.alloc (.cells #[.int .i64 23, .int .i64 8] 28)).drew := ⟨_, rfl⟩
  have BL : Hid (Blk W w.heap.size #[.int .i64 23, .int .i64 8] 28) := by rw [hW]; exact blk.out
  have HBW : Hid (Below w.heap.size w W) := by rw [hW]; exact HB0.out.drew
  rw [← hW]
  clear hW blk HB0
  have c0 : W.cell? ⟨w.heap.size, 0, none⟩ = some (.int .i64 23) := BL.out.cell 0
  have c1 : W.cell? ⟨w.heap.size, 1, none⟩ = some (.int .i64 8) := BL.out.cell 1
  have b0 : Hid (Below W.heap.size W W.drew) := bdrew' W
  have H : Hid (Calls Tryz.prog 49 #[.agg #[.int .i64 23, .int .i64 8]] W.drew fun e w' => e = .returned (.int .i64 149) ∧ Hid (Below w.heap.size w w') ∧ w'.cell? ⟨w.heap.size, 0, none⟩ = some (.int .i64 23) ∧ w'.cell? ⟨w.heap.size, 1, none⟩ = some (.int .i64 8)) := by
    refine (bias32 W.drew).mono ?_
    rintro e w' ⟨rfl, hb⟩
    have hbb := b0.out.trans (hb.mono b0.out.size)
    have q := BL.out.below hbb BL.out.lt
    exact ⟨rfl, HBW.out.trans (hbb.mono HBW.out.size), q.cell 0, q.cell 1⟩
  have mk0 : True := trivial
  go_region_held3 (fun w' => w'.cell? ⟨w.heap.size, 0, none⟩ = some (.int .i64 23) ∧ w'.cell? ⟨w.heap.size, 1, none⟩ = some (.int .i64 8)) (go_keep) (first
    | (clear mk0; go_at_call 49; refine H.out.mono ?_; rintro e w2 ⟨rfl, b2, k0, k1⟩; have mk1 : True := trivial))
  all_goals (
    go_wp2
    refine bodyPost_ret (results_tmp4 rfl _ _ _) rfl ?_
    refine ⟨?_, b2.out⟩
    show Ending.returned (.tuple #[.bool true, .int .i64 0, .int .u64 (bits .or .u64 (m : Int) (IntKind.u64.wrap 8388608)), .int .i64 (IntKind.i64.wrap (IntKind.i64.wrap ((x : Int) - 1) - 149))]) = _
    rw [W1.out, OR.out])

end Go.Proofs.YtpiloigpncbccaaGreatDoor

namespace Go.Proofs.YtpiloigpncbccaaGreatDoor
open Go.RowKit

/-- The Dec of N times 10^e, of a zero too. -/
def decZ (neg : Bool) (N : Nat) (e : Int) : DecT := if N = 0 then ⟨0, neg, [], 0⟩ else decA neg N e

/-- The text of a number. -/
def strN (N : Nat) : ByteArray := ⟨(Lib.decDigits N).toArray⟩

theorem strN_size (N : Nat) : (strN N).size = sizeN N := by simp [strN, sizeN, ByteArray.size]
theorem strN_bys (N : Nat) : bys (strN N) = Lib.decDigits N := by simp [strN, bys]
theorem strN_cut {N : Nat} (h : N ≠ 0) : (strN (N * 10)).extract 0 (sizeN N) = strN N := by
  unfold strN sizeN
  rw [dd_ten h, Lib.extract_mk]
  simp
theorem sizeN_ten {N : Nat} (h : N ≠ 0) : sizeN (N * 10) = sizeN N + 1 := by
  unfold sizeN; rw [dd_ten h]; simp

set_option maxHeartbeats 1000000 in
theorem rdec_zero (neg : Bool) (oa : Option Addr) (la ca : Nat) (n : Int) (w : World) (ha : Nr w (.slice oa la ca) 0) :
    Calls Tryz.prog 33 #[.bool neg, .slice oa la ca, .int .i64 n] w fun e w' => e = .returned (decVal (decZ neg 0 n)) ∧ Below w.heap.size w w' := by
  have hb0 : Below w.heap.size w (w.alloc (.cells #[.int .i64 0, .bool false, .string ⟨#[]⟩, .int .i64 0] 25)) := (Below.refl _ _).alloc (Nat.le_refl _) _
  have TX := nr_text _ 0 _ (ha.below hb0) (Sm.of (k := 1) (by omega) (by omega))
  obtain ⟨t, ht⟩ : ∃ t : ByteArray, t = ⟨(Lib.decDigits 0).toArray⟩ := ⟨_, rfl⟩
  rw [← ht] at TX
  have hq : (t.toList == [48]) = true := by rw [ht, ByteArray.toList_eq, Lib.decDigits_one (by omega)]; rfl
  have TXH := hide TX
  have HB0 := hide hb0
  have BLK := hide (Blk.new w #[.int .i64 0, .bool false, .string ⟨#[]⟩, .int .i64 0] 25)
  clear TX hb0 ha ht
  go_enter Tryz.func33, Tryz.ntmps33
  go_wp2_with fail
  refine TXH.out.mono ?_
  rintro e w1 ⟨rfl, hb1⟩
  have B1 := BLK.out.below hb1 BLK.out.lt
  have k0 : w1.cell? ⟨w.heap.size, 0, none⟩ = some (.int .i64 0) := B1.cell 0
  have k1 : w1.cell? ⟨w.heap.size, 1, none⟩ = some (.bool false) := B1.cell 1
  have k2 : w1.cell? ⟨w.heap.size, 2, none⟩ = some (.string ⟨#[]⟩) := B1.cell 2
  have k3 : w1.cell? ⟨w.heap.size, 3, none⟩ = some (.int .i64 0) := B1.cell 3
  have f0 := B1.free 0
  have f1 := B1.free 1
  have f2 := B1.free 2
  have f3 := B1.free 3
  have BL1 := hide B1
  have HB1 := hide (HB0.out.trans (hb1.mono (by simp)))
  clear B1 hb1 HB0 BLK TXH
  go_wp2
  refine bodyPost_ret (results_dec rfl _ _ _ _ _ _ _ rfl (BL1.out.put4 _ _ _ _)) rfl ?_
  exact ⟨rfl, below_put4 HB1.out (by omega) _ _ _ _⟩

set_option maxHeartbeats 2000000 in
theorem rdec_some (neg : Bool) (oa : Option Addr) (la ca N : Nat) (n : Int) (w : World) (ha : Nr w (.slice oa la ca) N) (h0 : N ≠ 0) (hs : sizeN N ≤ 5000) (hsm : Sm N) (h1 : -5000 ≤ n) (h2 : n ≤ 5000) :
    Calls Tryz.prog 33 #[.bool neg, .slice oa la ca, .int .i64 n] w fun e w' => e = .returned (decVal (decA neg N n)) ∧ Below w.heap.size w w' := by
  have hb0 : Below w.heap.size w (w.alloc (.cells #[.int .i64 0, .bool false, .string ⟨#[]⟩, .int .i64 0] 25)) := (Below.refl _ _).alloc (Nat.le_refl _) _
  have TX := nr_text _ N _ (ha.below hb0) hsm
  obtain ⟨M, k, hN, hM, hD⟩ := decA_form neg n h0
  have hM0 : M ≠ 0 := by omega
  have hk0 : ∀ i, M * 10 ^ i ≠ 0 := fun i => Nat.mul_ne_zero hM0 (by have := Nat.pow_pos (n := i) (show 0 < 10 by omega); omega)
  have hsz : ∀ i, sizeN (M * 10 ^ i) = sizeN M + i := by
    intro i
    induction i with
    | zero => simp
    | succ i ih => rw [Nat.pow_succ, ← Nat.mul_assoc, sizeN_ten (hk0 i), ih]; omega
  have hkl : sizeN M + k ≤ 5000 := by rw [← hsz, ← hN]; exact hs
  rw [hD]
  rw [hN] at TX
  have hMp := sizeN_pos M
  have hq : ((strN (M * 10 ^ k)).toList == [48]) = false := by
    have : Lib.decDigits (M * 10 ^ k) ≠ [48] := fun e => hk0 k (dd_zero e)
    rw [strN, ByteArray.toList_eq]
    simpa using this
  have TXH : Hid (Calls Tryz.prog 28 #[.slice oa la ca] (w.alloc (.cells #[.int .i64 0, .bool false, .string ⟨#[]⟩, .int .i64 0] 25)) fun e w' => e = .returned (.string (strN (M * 10 ^ k))) ∧ Below (w.alloc (.cells #[.int .i64 0, .bool false, .string ⟨#[]⟩, .int .i64 0] 25)).heap.size (w.alloc (.cells #[.int .i64 0, .bool false, .string ⟨#[]⟩, .int .i64 0] 25)) w') := TX
  have HB0 := hide hb0
  have BLK := hide (Blk.new w #[.int .i64 0, .bool false, .string ⟨#[]⟩, .int .i64 0] 25)
  have HSZ := hide hsz
  have HK0 := hide hk0
  have HL : Hid (byt (Lib.decDigits M) (sizeN M - 1) ≠ 48) := dd_last hM
  have FIN : Hid (decVal ⟨0, neg, Lib.decDigits M, n + (k : Int)⟩ = .agg #[.int .i64 0, .bool neg, .string (strN M), .int .i64 (n + (k : Int))]) := rfl
  clear TX hb0 ha hN hD hM hM0 hsz hk0 hs hsm h0
  rw [FIN.out]
  obtain ⟨t, ht⟩ : ∃ t, t = strN (M * 10 ^ k) := ⟨_, rfl⟩
  rw [← ht] at TXH hq
  have HTT := hide ht
  clear ht
  go_enter Tryz.func33, Tryz.ntmps33
  go_wp2_with fail
  refine TXH.out.mono ?_
  rintro e w1 ⟨rfl, hb1⟩
  have B1 := BLK.out.below hb1 BLK.out.lt
  have k0 : w1.cell? ⟨w.heap.size, 0, none⟩ = some (.int .i64 0) := B1.cell 0
  have k1 : w1.cell? ⟨w.heap.size, 1, none⟩ = some (.bool false) := B1.cell 1
  have k2 : w1.cell? ⟨w.heap.size, 2, none⟩ = some (.string ⟨#[]⟩) := B1.cell 2
  have k3 : w1.cell? ⟨w.heap.size, 3, none⟩ = some (.int .i64 0) := B1.cell 3
  have f0 := B1.free 0
  have f1 := B1.free 1
  have f2 := B1.free 2
  have f3 := B1.free 3
  have BL1 := hide B1
  have HB1 := hide (HB0.out.trans (hb1.mono (by simp)))
  clear B1 hb1 HB0 BLK TXH
  go_wp2
  go_loopw [2, 7] (fun ve vs wr => ∃ (i j : Nat) (s : ByteArray), i + j = k ∧ Hid (s = strN (M * 10 ^ i)) ∧ vs = .string s ∧ ve = .int .i64 (n + (j : Int)) ∧ wr = w1) (fun _ vs _ => Lib.strSize vs)
  case atStart => exact ⟨k, 0, t, rfl, HTT.out, rfl, by simp, rfl⟩
  case round =>
    clear hq HTT
    obtain ⟨i, j, s, hij, hs, rfl, rfl, rfl⟩ := hrel
    have hss : s.size = sizeN M + i := by rw [hs.out, strN_size, HSZ.out]
    obtain ⟨q, hqq⟩ : ∃ q, q = sizeN M + i - 1 := ⟨_, rfl⟩
    have hsq : s.size = q + 1 := by omega
    have hg : ∀ h : q < s.size, s[q].toNat = byt (bys s) q := fun h => byt_get s q h
    have hlt : q < s.size := by omega
    have hlt' : (q : Int) < (s.size : Int) := by omega
    have hqb : q ≤ 5000 := by omega
    rcases i with _ | i
    · obtain ⟨a, ha⟩ : ∃ a, a = byt (bys s) q := ⟨_, rfl⟩
      rw [← ha] at hg
      have hne : ((a : Int) == 48) = false := by
        have h1 := HL.out
        have e1 : bys s = Lib.decDigits M := by rw [hs.out, Nat.pow_zero, Nat.mul_one, strN_bys]
        rw [e1, hqq, Nat.add_zero] at ha
        rw [← ha] at h1
        have : ¬ (a : Int) = 48 := by omega
        simpa using this
      have hst : Hid (s = strN M) := by show s = strN M; rw [hs.out]; simp
      have hj : Hid ((j : Int) = (k : Int)) := by show (j : Int) = (k : Int); omega
      clear ha hs hij hss hqq
      go_wp2
      refine bodyPost_ret (results_dec rfl _ _ _ _ _ _ _ rfl (BL1.out.put4 _ _ _ _)) rfl ?_
      refine ⟨?_, below_put4 HB1.out (by omega) _ _ _ _⟩
      rw [hst.out, hj.out]
    · have hb : byt (bys s) q = 48 := by
        rw [hs.out, strN_bys, Nat.pow_succ, ← Nat.mul_assoc, dd_ten (HK0.out i), show q = (Lib.decDigits (M * 10 ^ i)).length by have := HSZ.out i; unfold sizeN at this; rw [this]; unfold sizeN at hqq; omega, byt_last]
        rfl
      rw [hb] at hg
      have hcut : s.extract 0 q = strN (M * 10 ^ i) := by
        have h := strN_cut (HK0.out i)
        rw [HSZ.out i] at h
        rw [hs.out, Nat.pow_succ, ← Nat.mul_assoc, hqq]
        exact h
      have hsl : ∀ W, (Instr.slice 9 (.string s) none (some (.int .i64 (q : Int))) none).run Tryz.prog W = .ok (.string (s.extract 0 q)) W := fun W => by
        simp [go_sem, Tryz.underlying9]; omega
      have HC := hide hcut
      have hsx : (s.extract 0 q).size = q := by rw [hcut, strN_size, HSZ.out]; omega
      clear hb hcut hs hss hqq
      go_wp2
      refine ⟨⟨i, j + 1, s.extract 0 q, by omega, HC.out, rfl, congrArg (Value.int IntKind.i64) (by omega), trivial⟩, ?_⟩
      rw [Lib.strSize_string, Lib.strSize_string]; omega

theorem rdec_any (neg : Bool) (oa : Option Addr) (la ca N : Nat) (n : Int) (w : World) (ha : Nr w (.slice oa la ca) N) (hs : sizeN N ≤ 5000) (hsm : Sm N) (h1 : -5000 ≤ n) (h2 : n ≤ 5000) :
    Calls Tryz.prog 33 #[.bool neg, .slice oa la ca, .int .i64 n] w fun e w' => e = .returned (decVal (decZ neg N n)) ∧ Below w.heap.size w w' := by
  by_cases h0 : N = 0
  · subst h0; exact rdec_zero neg oa la ca n w ha
  · unfold decZ; rw [if_neg h0]; exact rdec_some neg oa la ca N n w ha h0 hs hsm h1 h2

end Go.Proofs.YtpiloigpncbccaaGreatDoor

namespace Go.Proofs.YtpiloigpncbccaaGreatDoor
open Go.RowKit

/-- The fields of a float of 64 bits. -/
theorem fields64 (b : Nat) (hb : b < 18446744073709551616) : ∃ x m : Nat, x = b / 2 ^ 52 % 2 ^ 11 ∧ m = b % 2 ^ 52 ∧ x ≤ 2047 ∧ m < 4503599627370496 ∧ bits .and .u64 ((b : Int) / 4503599627370496) 2047 = (x : Int) ∧ bits .and .u64 (b : Int) 4503599627370495 = (m : Int) ∧
    ((b / 2 ^ 52 / 2 ^ 11 ≠ 0 ∧ bits .and .u64 ((b : Int) / 9223372036854775808) 1 = 1) ∨ (b / 2 ^ 52 / 2 ^ 11 = 0 ∧ bits .and .u64 ((b : Int) / 9223372036854775808) 1 = 0)) := by
  have e1 : (2 : Nat) ^ 52 = 4503599627370496 := by decide
  have e2 : (2 : Nat) ^ 11 = 2048 := by decide
  refine ⟨_, _, rfl, rfl, ?_, ?_, ?_, ?_, ?_⟩
  · rw [e2]; omega
  · rw [e1]; omega
  · have h := mask 11 2047 (b / 4503599627370496) (by decide) (by omega) (by omega)
    rw [e1, e2, show (b : Int) / 4503599627370496 = ((b / 4503599627370496 : Nat) : Int) by omega]
    exact h
  · have h := mask 52 4503599627370495 b (by decide) (by omega) (by omega)
    rw [e1]
    exact h
  · have h := mask 1 1 (b / 9223372036854775808) (by decide) (by omega) (by omega)
    rw [show (b : Int) / 9223372036854775808 = ((b / 9223372036854775808 : Nat) : Int) by omega, e1, e2]
    rcases Nat.lt_or_ge b 9223372036854775808 with h1 | h1
    · right
      refine ⟨by omega, h.trans ?_⟩
      rw [Nat.div_eq_of_lt h1]; rfl
    · left
      refine ⟨by omega, h.trans ?_⟩
      rw [show b / 9223372036854775808 = 1 by omega]; rfl

/-- Exact, where Parts answers a class that is not finite. -/
theorem rexact64_no (b : Nat) (w : World) (c : Int) (neg : Bool) (hc : ¬ c = 0)
    (PT : ∀ W, Calls Tryz.prog 23 #[k64, .int .u64 (b : Int)] W fun e w' => e = .returned (.tuple #[.bool neg, .int .i64 c, .int .u64 0, .int .i64 0]) ∧ Below W.heap.size W w') :
    Calls Tryz.prog 15 #[k64, .int .u64 (b : Int)] w fun e w' => e = .returned (.agg #[.int .i64 c, .bool neg, .string ⟨#[]⟩, .int .i64 0]) ∧ Below w.heap.size w w' := by
  have PTH := hide PT
  have HB0 : Hid (Below w.heap.size w ((w.alloc (.cells #[.int .i64 52, .int .i64 11] 28)).alloc (.cells #[.int .i64 0, .bool false, .string ⟨#[]⟩, .int .i64 0] 25))) := ((Below.refl _ _).alloc (Nat.le_refl _) _).alloc (by simp) _
  have BLK := hide (Blk.newAt (w.alloc (.cells #[.int .i64 52, .int .i64 11] 28)) (w.heap.size + 1) (by simp) #[.int .i64 0, .bool false, .string ⟨#[]⟩, .int .i64 0] 25)
  clear PT
  go_enter Tryz.func15, Tryz.ntmps15
  go_wp2_with fail
  refine (PTH.out _).mono ?_
  rintro e w1 ⟨rfl, hb1⟩
  have B1 := BLK.out.below hb1 BLK.out.lt
  have HB1 := hide (HB0.out.trans (hb1.mono (by simp; omega)))
  have k0 : w1.cell? ⟨w.heap.size + 1, 0, none⟩ = some (.int .i64 0) := B1.cell 0
  have k1 : w1.cell? ⟨w.heap.size + 1, 1, none⟩ = some (.bool false) := B1.cell 1
  have k2 : w1.cell? ⟨w.heap.size + 1, 2, none⟩ = some (.string ⟨#[]⟩) := B1.cell 2
  have k3 : w1.cell? ⟨w.heap.size + 1, 3, none⟩ = some (.int .i64 0) := B1.cell 3
  have f0 := B1.free 0
  have f1 := B1.free 1
  have f2 := B1.free 2
  have f3 := B1.free 3
  have BL1 := hide B1
  clear B1 hb1 HB0 BLK PTH
  go_wp2
  refine bodyPost_ret (results_dec rfl _ _ _ _ _ _ _ rfl (BL1.out.put4 _ _ _ _)) rfl ?_
  exact ⟨rfl, below_put4 HB1.out (by omega) _ _ _ _⟩

set_option maxHeartbeats 1000000 in
theorem rexact64_fin (b : Nat) (w : World) (neg : Bool) (M : Nat) (ex : Int) (hM : M < B64) (hsm : Sm M) (hs2 : Sm (M * p2N ex)) (hsz : sizeN (M * p2N ex) ≤ 5000) (h1 : -1074 ≤ ex) (h2 : ex ≤ 971)
    (PT : ∀ W, Calls Tryz.prog 23 #[k64, .int .u64 (b : Int)] W fun e w' => e = .returned (.tuple #[.bool neg, .int .i64 0, .int .u64 (M : Int), .int .i64 ex]) ∧ Below W.heap.size W w') :
    Calls Tryz.prog 15 #[k64, .int .u64 (b : Int)] w fun e w' => e = .returned (decVal (decZ neg (M * p2N ex) (p2E ex))) ∧ Below w.heap.size w w' := by
  have PTH := hide PT
  have HB0 : Hid (Below w.heap.size w ((w.alloc (.cells #[.int .i64 52, .int .i64 11] 28)).alloc (.cells #[.int .i64 0, .bool false, .string ⟨#[]⟩, .int .i64 0] 25))) := ((Below.refl _ _).alloc (Nat.le_refl _) _).alloc (by simp) _
  have BLK := hide (Blk.newAt (w.alloc (.cells #[.int .i64 52, .int .i64 11] 28)) (w.heap.size + 1) (by simp) #[.int .i64 0, .bool false, .string ⟨#[]⟩, .int .i64 0] 25)
  obtain ⟨d, hd⟩ : ∃ d, d = decZ neg (M * p2N ex) (p2E ex) := ⟨_, rfl⟩
  have hE : -5000 ≤ p2E ex ∧ p2E ex ≤ 5000 := by unfold p2E; split <;> omega
  have RD := fun oa la ca W (h : Nr W (.slice oa la ca) (M * p2N ex)) => rdec_any neg oa la ca (M * p2N ex) (p2E ex) W h hsz hs2 hE.1 hE.2
  rw [← hd] at RD ⊢
  have RDH := hide RD
  have AMH := hide (fun oa la ca W (h : Nr W (.slice oa la ca) M) => amount_call oa la ca M ex W h hsm (by omega) (by omega))
  have LM := hide (fun W => limb_call M W hM)
  clear PT RD hd hE hsz hs2 hsm hM
  go_enter Tryz.func15, Tryz.ntmps15
  go_wp2_with fail
  refine (PTH.out _).mono ?_
  rintro e w1 ⟨rfl, hb1⟩
  have BLK1 := hide (BLK.out.below hb1 BLK.out.lt)
  have HB1 := hide (HB0.out.trans (hb1.mono (by simp; omega)))
  clear hb1 HB0 BLK PTH
  go_wp2_with fail
  refine (LM.out _).mono ?_
  rintro e w2 ⟨o2, c2, l2, rfl, n2, hb2⟩
  have AM2 := hide (AMH.out o2 l2 c2 w2 n2)
  have HB2 := hide (HB1.out.trans (hb2.mono HB1.out.size))
  have BLK2 := hide (BLK1.out.below hb2 BLK1.out.lt)
  clear n2 hb2 HB1 BLK1 LM AMH
  go_wp2_with fail
  refine AM2.out.mono ?_
  rintro e w3 ⟨o3, c3, l3, rfl, n3, hb3⟩
  have RD3 := hide (RDH.out o3 l3 c3 w3 n3)
  have HB3 := hide (HB2.out.trans (hb3.mono HB2.out.size))
  have BLK3 := hide (BLK2.out.below hb3 BLK2.out.lt)
  clear n3 hb3 HB2 BLK2 AM2 RDH
  go_wp2_with fail
  refine RD3.out.mono ?_
  rintro e w1 ⟨rfl, hb1⟩
  have B1 := BLK3.out.below hb1 BLK3.out.lt
  have HB1 := hide (HB3.out.trans (hb1.mono HB3.out.size))
  have k0 : w1.cell? ⟨w.heap.size + 1, 0, none⟩ = some (.int .i64 0) := B1.cell 0
  have k1 : w1.cell? ⟨w.heap.size + 1, 1, none⟩ = some (.bool false) := B1.cell 1
  have k2 : w1.cell? ⟨w.heap.size + 1, 2, none⟩ = some (.string ⟨#[]⟩) := B1.cell 2
  have k3 : w1.cell? ⟨w.heap.size + 1, 3, none⟩ = some (.int .i64 0) := B1.cell 3
  have f0 := B1.free 0
  have f1 := B1.free 1
  have f2 := B1.free 2
  have f3 := B1.free 3
  have BL1 := hide B1
  have FIN : Hid (decVal d = .agg #[.int .i64 (d.cls : Int), .bool d.neg, .string ⟨d.dig.toArray⟩, .int .i64 d.exp]) := rfl
  rw [FIN.out]
  clear B1 hb1 HB3 BLK3 RD3
  go_wp2
  refine bodyPost_ret (results_dec rfl _ _ _ _ _ _ _ rfl (BL1.out.put4 _ _ _ _)) rfl ?_
  exact ⟨rfl, below_put4 HB1.out (by omega) _ _ _ _⟩

theorem rexact64_any (b : Nat) (w : World) (hb : b < 18446744073709551616) : Calls Tryz.prog 15 #[k64, .int .u64 (b : Int)] w fun e w' => e = .returned (decVal (ex64D b)) ∧ Below w.heap.size w w' := by
  obtain ⟨x, m, hx, hm, hxl, hml, mx, mm, ms⟩ := fields64 b hb
  have D : ex64D b = (if x = 2047 then if m = 0 then ⟨1, decide (b / 2 ^ 52 / 2 ^ 11 ≠ 0), [], 0⟩ else ⟨2, false, [], 0⟩ else if x = 0 ∧ m = 0 then ⟨0, decide (b / 2 ^ 52 / 2 ^ 11 ≠ 0), [], 0⟩ else decA (decide (b / 2 ^ 52 / 2 ^ 11 ≠ 0)) (allD 52 1074 x m).1 (allD 52 1074 x m).2) := by
    rw [hx, hm]; rfl
  rw [D]
  have e1 : (2 : Nat) ^ 52 = 4503599627370496 := by decide
  by_cases hx1 : x = 2047
  · rw [if_pos hx1]
    by_cases hm0 : m = 0
    · rw [if_pos hm0]
      rcases ms with ⟨h1, h2⟩ | ⟨h1, h2⟩
      · rw [decide_eq_true h1]
        exact rexact64_no b w 1 true (by omega) (fun W => parts64_inf1 b x m W hxl mx mm h2 (by omega) (by omega))
      · rw [decide_eq_false (by omega)]
        exact rexact64_no b w 1 false (by omega) (fun W => parts64_inf0 b x m W hxl mx mm h2 (by omega) (by omega))
    · rw [if_neg hm0]
      rcases ms with ⟨h1, h2⟩ | ⟨h1, h2⟩
      · exact rexact64_no b w 2 false (by omega) (fun W => parts64_nan1 b x m W hxl mx mm h2 (by omega) (by omega))
      · exact rexact64_no b w 2 false (by omega) (fun W => parts64_nan0 b x m W hxl mx mm h2 (by omega) (by omega))
  · rw [if_neg hx1]
    have p1 : -1074 ≤ fPow 1074 x := by unfold fPow; split <;> omega
    have p2 : fPow 1074 x ≤ 971 := by unfold fPow; split <;> omega
    have hn : fNum 52 x m < 10 ^ 17 := by have := fNum_lt17 (F := 52) (x := x) (m := m) (by omega) (by rw [e1]; exact hml); omega
    obtain ⟨j, hj⟩ : ∃ j : Nat, j = 1081 := ⟨_, rfl⟩
    have hA : fNum 52 x m * p2N (fPow 1074 x) < 10 ^ (17 + j) := mul_lt10 hn (p2N_lt (by omega) (by omega))
    have hz : sizeN (fNum 52 x m * p2N (fPow 1074 x)) ≤ 5000 := size_bound hA (by omega) (by omega)
    have hs2 := Sm.of hA (by omega)
    have key : ∀ neg : Bool, (if x = 0 ∧ m = 0 then ⟨0, neg, [], 0⟩ else decA neg (allD 52 1074 x m).1 (allD 52 1074 x m).2) = decZ neg (fNum 52 x m * p2N (fPow 1074 x)) (p2E (fPow 1074 x)) := by
      intro neg
      unfold decZ
      have hp := p2N_pos (fPow 1074 x)
      by_cases h0 : x = 0 ∧ m = 0
      · rw [if_pos h0, if_pos (by unfold fNum; rw [if_pos h0.1, h0.2, Nat.zero_mul])]
      · have hf : fNum 52 x m ≠ 0 := by unfold fNum; split <;> omega
        rw [if_neg h0, if_neg (Nat.mul_ne_zero hf (by omega))]; rfl
    rw [key]
    have M1 := (small17 hn).1
    have M2 := (small17 hn).2
    have PT : ∀ (neg : Bool), (neg = decide (b / 2 ^ 52 / 2 ^ 11 ≠ 0)) → ∀ W, Calls Tryz.prog 23 #[k64, .int .u64 (b : Int)] W fun e w' => e = .returned (.tuple #[.bool neg, .int .i64 0, .int .u64 ((fNum 52 x m : Nat) : Int), .int .i64 (fPow 1074 x)]) ∧ Below W.heap.size W w' := by
      intro neg hneg W
      unfold fNum fPow
      by_cases hx0 : x = 0
      · rw [if_pos hx0, if_pos hx0]
        rcases ms with ⟨h1, h2⟩ | ⟨h1, h2⟩
        · rw [hneg, decide_eq_true h1]; exact parts64_sub1 b x m W hxl mx mm h2 (by omega)
        · rw [hneg, decide_eq_false (by omega)]; exact parts64_sub0 b x m W hxl mx mm h2 (by omega)
      · rw [if_neg hx0, if_neg hx0, e1]
        rcases ms with ⟨h1, h2⟩ | ⟨h1, h2⟩
        · rw [hneg, decide_eq_true h1]; exact parts64_norm1 b x m W hxl mx mm h2 (by omega) (by omega) hml
        · rw [hneg, decide_eq_false (by omega)]; exact parts64_norm0 b x m W hxl mx mm h2 (by omega) (by omega) hml
    exact rexact64_fin b w _ _ _ M1 M2 hs2 hz p1 p2 (PT _ rfl)

/-- The fields of a float of 32 bits. -/
theorem fields32 (b : Nat) (hb : b < 4294967296) : ∃ x m : Nat, x = b / 2 ^ 23 % 2 ^ 8 ∧ m = b % 2 ^ 23 ∧ x ≤ 255 ∧ m < 8388608 ∧ bits .and .u64 ((b : Int) / 8388608) 255 = (x : Int) ∧ bits .and .u64 (b : Int) 8388607 = (m : Int) ∧
    ((b / 2 ^ 23 / 2 ^ 8 ≠ 0 ∧ bits .and .u64 ((b : Int) / 2147483648) 1 = 1) ∨ (b / 2 ^ 23 / 2 ^ 8 = 0 ∧ bits .and .u64 ((b : Int) / 2147483648) 1 = 0)) := by
  have e1 : (2 : Nat) ^ 23 = 8388608 := by decide
  have e2 : (2 : Nat) ^ 8 = 256 := by decide
  refine ⟨_, _, rfl, rfl, ?_, ?_, ?_, ?_, ?_⟩
  · rw [e2]; omega
  · rw [e1]; omega
  · have h := mask 8 255 (b / 8388608) (by decide) (by omega) (by omega)
    rw [e1, e2, show (b : Int) / 8388608 = ((b / 8388608 : Nat) : Int) by omega]
    exact h
  · have h := mask 23 8388607 b (by decide) (by omega) (by omega)
    rw [e1]
    exact h
  · have h := mask 1 1 (b / 2147483648) (by decide) (by omega) (by omega)
    rw [show (b : Int) / 2147483648 = ((b / 2147483648 : Nat) : Int) by omega, e1, e2]
    rcases Nat.lt_or_ge b 2147483648 with h1 | h1
    · right
      refine ⟨by omega, h.trans ?_⟩
      rw [Nat.div_eq_of_lt h1]; rfl
    · left
      refine ⟨by omega, h.trans ?_⟩
      rw [show b / 2147483648 = 1 by omega]; rfl

/-- Exact, where Parts answers a class that is not finite. -/
theorem rexact32_no (b : Nat) (w : World) (c : Int) (neg : Bool) (hc : ¬ c = 0)
    (PT : ∀ W, Calls Tryz.prog 23 #[k32, .int .u64 (b : Int)] W fun e w' => e = .returned (.tuple #[.bool neg, .int .i64 c, .int .u64 0, .int .i64 0]) ∧ Below W.heap.size W w') :
    Calls Tryz.prog 15 #[k32, .int .u64 (b : Int)] w fun e w' => e = .returned (.agg #[.int .i64 c, .bool neg, .string ⟨#[]⟩, .int .i64 0]) ∧ Below w.heap.size w w' := by
  have PTH := hide PT
  have HB0 : Hid (Below w.heap.size w ((w.alloc (.cells #[.int .i64 23, .int .i64 8] 28)).alloc (.cells #[.int .i64 0, .bool false, .string ⟨#[]⟩, .int .i64 0] 25))) := ((Below.refl _ _).alloc (Nat.le_refl _) _).alloc (by simp) _
  have BLK := hide (Blk.newAt (w.alloc (.cells #[.int .i64 23, .int .i64 8] 28)) (w.heap.size + 1) (by simp) #[.int .i64 0, .bool false, .string ⟨#[]⟩, .int .i64 0] 25)
  clear PT
  go_enter Tryz.func15, Tryz.ntmps15
  go_wp2_with fail
  refine (PTH.out _).mono ?_
  rintro e w1 ⟨rfl, hb1⟩
  have B1 := BLK.out.below hb1 BLK.out.lt
  have HB1 := hide (HB0.out.trans (hb1.mono (by simp; omega)))
  have k0 : w1.cell? ⟨w.heap.size + 1, 0, none⟩ = some (.int .i64 0) := B1.cell 0
  have k1 : w1.cell? ⟨w.heap.size + 1, 1, none⟩ = some (.bool false) := B1.cell 1
  have k2 : w1.cell? ⟨w.heap.size + 1, 2, none⟩ = some (.string ⟨#[]⟩) := B1.cell 2
  have k3 : w1.cell? ⟨w.heap.size + 1, 3, none⟩ = some (.int .i64 0) := B1.cell 3
  have f0 := B1.free 0
  have f1 := B1.free 1
  have f2 := B1.free 2
  have f3 := B1.free 3
  have BL1 := hide B1
  clear B1 hb1 HB0 BLK PTH
  go_wp2
  refine bodyPost_ret (results_dec rfl _ _ _ _ _ _ _ rfl (BL1.out.put4 _ _ _ _)) rfl ?_
  exact ⟨rfl, below_put4 HB1.out (by omega) _ _ _ _⟩

set_option maxHeartbeats 1000000 in
theorem rexact32_fin (b : Nat) (w : World) (neg : Bool) (M : Nat) (ex : Int) (hM : M < B64) (hsm : Sm M) (hs2 : Sm (M * p2N ex)) (hsz : sizeN (M * p2N ex) ≤ 5000) (h1 : -1074 ≤ ex) (h2 : ex ≤ 971)
    (PT : ∀ W, Calls Tryz.prog 23 #[k32, .int .u64 (b : Int)] W fun e w' => e = .returned (.tuple #[.bool neg, .int .i64 0, .int .u64 (M : Int), .int .i64 ex]) ∧ Below W.heap.size W w') :
    Calls Tryz.prog 15 #[k32, .int .u64 (b : Int)] w fun e w' => e = .returned (decVal (decZ neg (M * p2N ex) (p2E ex))) ∧ Below w.heap.size w w' := by
  have PTH := hide PT
  have HB0 : Hid (Below w.heap.size w ((w.alloc (.cells #[.int .i64 23, .int .i64 8] 28)).alloc (.cells #[.int .i64 0, .bool false, .string ⟨#[]⟩, .int .i64 0] 25))) := ((Below.refl _ _).alloc (Nat.le_refl _) _).alloc (by simp) _
  have BLK := hide (Blk.newAt (w.alloc (.cells #[.int .i64 23, .int .i64 8] 28)) (w.heap.size + 1) (by simp) #[.int .i64 0, .bool false, .string ⟨#[]⟩, .int .i64 0] 25)
  obtain ⟨d, hd⟩ : ∃ d, d = decZ neg (M * p2N ex) (p2E ex) := ⟨_, rfl⟩
  have hE : -5000 ≤ p2E ex ∧ p2E ex ≤ 5000 := by unfold p2E; split <;> omega
  have RD := fun oa la ca W (h : Nr W (.slice oa la ca) (M * p2N ex)) => rdec_any neg oa la ca (M * p2N ex) (p2E ex) W h hsz hs2 hE.1 hE.2
  rw [← hd] at RD ⊢
  have RDH := hide RD
  have AMH := hide (fun oa la ca W (h : Nr W (.slice oa la ca) M) => amount_call oa la ca M ex W h hsm (by omega) (by omega))
  have LM := hide (fun W => limb_call M W hM)
  clear PT RD hd hE hsz hs2 hsm hM
  go_enter Tryz.func15, Tryz.ntmps15
  go_wp2_with fail
  refine (PTH.out _).mono ?_
  rintro e w1 ⟨rfl, hb1⟩
  have BLK1 := hide (BLK.out.below hb1 BLK.out.lt)
  have HB1 := hide (HB0.out.trans (hb1.mono (by simp; omega)))
  clear hb1 HB0 BLK PTH
  go_wp2_with fail
  refine (LM.out _).mono ?_
  rintro e w2 ⟨o2, c2, l2, rfl, n2, hb2⟩
  have AM2 := hide (AMH.out o2 l2 c2 w2 n2)
  have HB2 := hide (HB1.out.trans (hb2.mono HB1.out.size))
  have BLK2 := hide (BLK1.out.below hb2 BLK1.out.lt)
  clear n2 hb2 HB1 BLK1 LM AMH
  go_wp2_with fail
  refine AM2.out.mono ?_
  rintro e w3 ⟨o3, c3, l3, rfl, n3, hb3⟩
  have RD3 := hide (RDH.out o3 l3 c3 w3 n3)
  have HB3 := hide (HB2.out.trans (hb3.mono HB2.out.size))
  have BLK3 := hide (BLK2.out.below hb3 BLK2.out.lt)
  clear n3 hb3 HB2 BLK2 AM2 RDH
  go_wp2_with fail
  refine RD3.out.mono ?_
  rintro e w1 ⟨rfl, hb1⟩
  have B1 := BLK3.out.below hb1 BLK3.out.lt
  have HB1 := hide (HB3.out.trans (hb1.mono HB3.out.size))
  have k0 : w1.cell? ⟨w.heap.size + 1, 0, none⟩ = some (.int .i64 0) := B1.cell 0
  have k1 : w1.cell? ⟨w.heap.size + 1, 1, none⟩ = some (.bool false) := B1.cell 1
  have k2 : w1.cell? ⟨w.heap.size + 1, 2, none⟩ = some (.string ⟨#[]⟩) := B1.cell 2
  have k3 : w1.cell? ⟨w.heap.size + 1, 3, none⟩ = some (.int .i64 0) := B1.cell 3
  have f0 := B1.free 0
  have f1 := B1.free 1
  have f2 := B1.free 2
  have f3 := B1.free 3
  have BL1 := hide B1
  have FIN : Hid (decVal d = .agg #[.int .i64 (d.cls : Int), .bool d.neg, .string ⟨d.dig.toArray⟩, .int .i64 d.exp]) := rfl
  rw [FIN.out]
  clear B1 hb1 HB3 BLK3 RD3
  go_wp2
  refine bodyPost_ret (results_dec rfl _ _ _ _ _ _ _ rfl (BL1.out.put4 _ _ _ _)) rfl ?_
  exact ⟨rfl, below_put4 HB1.out (by omega) _ _ _ _⟩

theorem rexact32_any (b : Nat) (w : World) (hb : b < 4294967296) : Calls Tryz.prog 15 #[k32, .int .u64 (b : Int)] w fun e w' => e = .returned (decVal (ex32D b)) ∧ Below w.heap.size w w' := by
  obtain ⟨x, m, hx, hm, hxl, hml, mx, mm, ms⟩ := fields32 b hb
  have D : ex32D b = (if x = 255 then if m = 0 then ⟨1, decide (b / 2 ^ 23 / 2 ^ 8 ≠ 0), [], 0⟩ else ⟨2, false, [], 0⟩ else if x = 0 ∧ m = 0 then ⟨0, decide (b / 2 ^ 23 / 2 ^ 8 ≠ 0), [], 0⟩ else decA (decide (b / 2 ^ 23 / 2 ^ 8 ≠ 0)) (allD 23 149 x m).1 (allD 23 149 x m).2) := by
    rw [hx, hm]; rfl
  rw [D]
  have e1 : (2 : Nat) ^ 23 = 8388608 := by decide
  by_cases hx1 : x = 255
  · rw [if_pos hx1]
    by_cases hm0 : m = 0
    · rw [if_pos hm0]
      rcases ms with ⟨h1, h2⟩ | ⟨h1, h2⟩
      · rw [decide_eq_true h1]
        exact rexact32_no b w 1 true (by omega) (fun W => parts32_inf1 b x m W hxl mx mm h2 (by omega) (by omega))
      · rw [decide_eq_false (by omega)]
        exact rexact32_no b w 1 false (by omega) (fun W => parts32_inf0 b x m W hxl mx mm h2 (by omega) (by omega))
    · rw [if_neg hm0]
      rcases ms with ⟨h1, h2⟩ | ⟨h1, h2⟩
      · exact rexact32_no b w 2 false (by omega) (fun W => parts32_nan1 b x m W hxl mx mm h2 (by omega) (by omega))
      · exact rexact32_no b w 2 false (by omega) (fun W => parts32_nan0 b x m W hxl mx mm h2 (by omega) (by omega))
  · rw [if_neg hx1]
    have p1 : -1074 ≤ fPow 149 x := by unfold fPow; split <;> omega
    have p2 : fPow 149 x ≤ 971 := by unfold fPow; split <;> omega
    have hn : fNum 23 x m < 10 ^ 17 := by have := fNum_lt17 (F := 23) (x := x) (m := m) (by omega) (by rw [e1]; exact hml); omega
    obtain ⟨j, hj⟩ : ∃ j : Nat, j = 1081 := ⟨_, rfl⟩
    have hA : fNum 23 x m * p2N (fPow 149 x) < 10 ^ (17 + j) := mul_lt10 hn (p2N_lt (by omega) (by omega))
    have hz : sizeN (fNum 23 x m * p2N (fPow 149 x)) ≤ 5000 := size_bound hA (by omega) (by omega)
    have hs2 := Sm.of hA (by omega)
    have key : ∀ neg : Bool, (if x = 0 ∧ m = 0 then ⟨0, neg, [], 0⟩ else decA neg (allD 23 149 x m).1 (allD 23 149 x m).2) = decZ neg (fNum 23 x m * p2N (fPow 149 x)) (p2E (fPow 149 x)) := by
      intro neg
      unfold decZ
      have hp := p2N_pos (fPow 149 x)
      by_cases h0 : x = 0 ∧ m = 0
      · rw [if_pos h0, if_pos (by unfold fNum; rw [if_pos h0.1, h0.2, Nat.zero_mul])]
      · have hf : fNum 23 x m ≠ 0 := by unfold fNum; split <;> omega
        rw [if_neg h0, if_neg (Nat.mul_ne_zero hf (by omega))]; rfl
    rw [key]
    have M1 := (small17 hn).1
    have M2 := (small17 hn).2
    have PT : ∀ (neg : Bool), (neg = decide (b / 2 ^ 23 / 2 ^ 8 ≠ 0)) → ∀ W, Calls Tryz.prog 23 #[k32, .int .u64 (b : Int)] W fun e w' => e = .returned (.tuple #[.bool neg, .int .i64 0, .int .u64 ((fNum 23 x m : Nat) : Int), .int .i64 (fPow 149 x)]) ∧ Below W.heap.size W w' := by
      intro neg hneg W
      unfold fNum fPow
      by_cases hx0 : x = 0
      · rw [if_pos hx0, if_pos hx0]
        rcases ms with ⟨h1, h2⟩ | ⟨h1, h2⟩
        · rw [hneg, decide_eq_true h1]; exact parts32_sub1 b x m W hxl mx mm h2 (by omega)
        · rw [hneg, decide_eq_false (by omega)]; exact parts32_sub0 b x m W hxl mx mm h2 (by omega)
      · rw [if_neg hx0, if_neg hx0, e1]
        rcases ms with ⟨h1, h2⟩ | ⟨h1, h2⟩
        · rw [hneg, decide_eq_true h1]; exact parts32_norm1 b x m W hxl mx mm h2 (by omega) (by omega) hml
        · rw [hneg, decide_eq_false (by omega)]; exact parts32_norm0 b x m W hxl mx mm h2 (by omega) (by omega) hml
    exact rexact32_fin b w _ _ _ M1 M2 hs2 hz p1 p2 (PT _ rfl)

set_option maxHeartbeats 2000000 in
theorem exact_walk (w : World) (htab : Tab w) (a : Nat) (ha : a < 18446744073709551616) (b : Nat) (hb : b < 4294967296) :
    Calls Tryz.prog 5 #[.int .u64 (a : Int), .int .u32 (b : Int)] w fun e w' => e = .returned (.bool true) ∧ Below w.heap.size w w' := by
  have AW := hide (awake_any w htab)
  have E1 := hide (fun W => exact64_any a W ha)
  have R1 := hide (fun W => rexact64_any a W ha)
  have E2 := hide (fun W => exact32_any b W hb)
  have R2 := hide (fun W => rexact32_any b W hb)
  have HT := hide htab
  obtain ⟨da, hda⟩ : ∃ d, d = ex64D a := ⟨_, rfl⟩
  obtain ⟨db, hdb⟩ : ∃ d, d = ex32D b := ⟨_, rfl⟩
  rw [← hda] at E1 R1
  rw [← hdb] at E2 R2
  have FA : Hid (decVal da = .agg #[.int .i64 (da.cls : Int), .bool da.neg, .string ⟨da.dig.toArray⟩, .int .i64 da.exp]) := rfl
  have FB : Hid (decVal db = .agg #[.int .i64 (db.cls : Int), .bool db.neg, .string ⟨db.dig.toArray⟩, .int .i64 db.exp]) := rfl
  obtain ⟨ac, hac⟩ : ∃ z : Int, z = (da.cls : Int) := ⟨_, rfl⟩
  obtain ⟨bc, hbc⟩ : ∃ z : Int, z = (db.cls : Int) := ⟨_, rfl⟩
  obtain ⟨an, han⟩ : ∃ z, z = da.neg := ⟨_, rfl⟩
  obtain ⟨bn, hbn⟩ : ∃ z, z = db.neg := ⟨_, rfl⟩
  obtain ⟨at1, hat⟩ : ∃ z : ByteArray, z = ⟨da.dig.toArray⟩ := ⟨_, rfl⟩
  obtain ⟨bt, hbt⟩ : ∃ z : ByteArray, z = ⟨db.dig.toArray⟩ := ⟨_, rfl⟩
  obtain ⟨ae, hae⟩ : ∃ z, z = da.exp := ⟨_, rfl⟩
  obtain ⟨be, hbe⟩ : ∃ z, z = db.exp := ⟨_, rfl⟩
  rw [← hac, ← han, ← hat, ← hae] at FA
  rw [← hbc, ← hbn, ← hbt, ← hbe] at FB
  rw [FA.out] at E1 R1
  rw [FB.out] at E2 R2
  clear htab FA FB hda hdb hac hbc han hbn hat hbt hae hbe
  go_enter Tryz.func5, Tryz.ntmps5
  go_wp2_with fail
  refine AW.out.mono ?_
  rintro e w1 ⟨rfl, hb1⟩
  have HB1 := hide hb1
  clear hb1 AW
  go_wp2_with fail
  refine (E1.out _ (HT.out.below HB1.out)).mono ?_
  rintro e w2 ⟨rfl, hb2⟩
  have HB2 := hide (HB1.out.trans (hb2.mono HB1.out.size))
  clear hb2 HB1 E1
  go_wp2_with fail
  refine (wide_any _).mono ?_
  rintro e w3 ⟨rfl, hb3⟩
  have HB3 := hide (HB2.out.trans (hb3.mono HB2.out.size))
  clear hb3 HB2
  go_wp2_with fail
  refine (R1.out _).mono ?_
  rintro e w4 ⟨rfl, hb4⟩
  have HB4 := hide (HB3.out.trans (hb4.mono HB3.out.size))
  clear hb4 HB3 R1
  go_wp2_with fail
  refine (E2.out _ (HT.out.below HB4.out)).mono ?_
  rintro e w5 ⟨rfl, hb5⟩
  have HB5 := hide (HB4.out.trans (hb5.mono HB4.out.size))
  clear hb5 HB4 E2
  go_wp2_with fail
  refine (narrow_any _).mono ?_
  rintro e w6 ⟨rfl, hb6⟩
  have HB6 := hide (HB5.out.trans (hb6.mono HB5.out.size))
  clear hb6 HB5
  go_wp2_with fail
  refine (R2.out _).mono ?_
  rintro e w7 ⟨rfl, hb7⟩
  have HB7 := hide (HB6.out.trans (hb7.mono HB6.out.size))
  clear hb7 HB6 R2
  go_wp2
  go_ret
  exact ⟨rfl, HB7.out⟩

end Go.Proofs.YtpiloigpncbccaaGreatDoor
