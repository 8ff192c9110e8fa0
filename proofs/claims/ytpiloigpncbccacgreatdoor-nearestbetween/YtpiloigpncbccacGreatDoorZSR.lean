/-
  The reference's calls over numbers, wherever their digits lie: quipuref01's and quipuref02's, and quipuref03's limb, Amount, Wide, Narrow, Bias.
  What quipuref03's Dec does: a number times a power of 10, as a Dec.
  More of the reference's calls over numbers: Cmp, Add, DivMod, powers of 10; quipuref03's within.
  What quipulaw03's number and order do, of finite Decs.
-/
import Derived.Test.YtpiloigpncbccacGreatDoorZSD
import Derived.Test.YtpiloigpncbccacGreatDoorZRText
import Derived.Test.YtpiloigpncbccacGreatDoorZRMul
import Derived.Test.YtpiloigpncbccacGreatDoorZRSub
import Derived.Test.YtpiloigpncbccacGreatDoorIn
import Derived.Test.YtpiloigpncbccacGreatDoorZRAdd
import Derived.Test.YtpiloigpncbccacGreatDoorZRDiv
import Derived.Test.YtpiloigpncbccacGreatDoorROf
import Derived.Test.YtpiloigpncbccacGreatDoorZSM
import Derived.Deep.RegionHeld3
namespace Go.Proofs.YtpiloigpncbccacGreatDoor
open Go.RowKit

/-- v is a list of digits to the base 65536 without noughts on top, the number n. -/
def Nr (w : World) (v : Value) (n : Nat) : Prop := ∃ o c xs, v = .slice o (List.length xs) c ∧ xs.length ≤ c ∧ At .u32 w o xs ∧ Is 65536 xs n

theorem Nr.below {w w' : World} {v : Value} {n : Nat} (h : Nr w v n) (hb : Below w.heap.size w w') : Nr w' v n := by
  obtain ⟨o, c, xs, h1, h2, h4, h5⟩ := h
  exact ⟨o, c, xs, h1, h2, h4.below hb, h5⟩

theorem b64_16 (k : Nat) : B64 ^ k = 65536 ^ (4 * k) := by
  rw [Nat.pow_mul]; rfl

theorem len_of {xs : List Nat} {n k : Nat} (h : Is 65536 xs n) (hs : n < B64 ^ k) : xs.length ≤ 4 * k := len32 h (by rw [← b64_16]; exact hs)

theorem nr_len {xs : List Nat} {n : Nat} (h : Is 65536 xs n) (hs : Sm n) : xs.length ≤ 40000 := len_of h hs

def NrPost (w : World) (n : Nat) (e : Ending) (w' : World) : Prop := ∃ o c l, e = .returned (.slice o l c) ∧ Nr w' (.slice o l c) n ∧ Below w.heap.size w w'

theorem NrPost.of {w w' : World} {m n : Nat} {e : Ending} (h : RPost w m n e w') : NrPost w n e w' := by
  obtain ⟨o, c, ys, rfl, h1, h2, h3, _, h5⟩ := h
  exact ⟨o, c, ys.length, rfl, ⟨o, c, ys, rfl, h1, h2, h3⟩, h5⟩

theorem nr_mul (a b : Value) (x y : Nat) (w : World) (ha : Nr w a x) (hb : Nr w b y) (hx : Sm x) (hy : Sm y) : Calls Tryz.prog 12 #[a, b] w (NrPost w (x * y)) := by
  obtain ⟨o, c, xs, rfl, h1, h3, h4⟩ := ha
  obtain ⟨o', c', ys, rfl, h1', h3', h4'⟩ := hb
  have l1 := nr_len h4 hx
  have l2 := nr_len h4' hy
  refine (rmul_any o o' _ c _ c' xs ys w (by omega) (by omega) rfl rfl h3 h3' h4.1 h4'.1).mono ?_
  intro e w' h
  rw [h4.2.2, h4'.2.2] at h
  exact NrPost.of h

theorem nr_shl (a : Value) (x n : Nat) (w : World) (ha : Nr w a x) (hx : Sm x) (hn : n ≤ 65536) : Calls Tryz.prog 32 #[a, .int .i64 (n : Int)] w (NrPost w (x * 2 ^ n)) := by
  obtain ⟨o, c, xs, rfl, h1, h3, h4⟩ := ha
  have l1 := nr_len h4 hx
  refine (rshl_any o _ c n xs w hn h1 (by omega) rfl h3 h4.1).mono ?_
  intro e w' h
  rw [h4.2.2] at h
  exact NrPost.of h

theorem nr_pow5 (n : Int) (k : Nat) (w : World) (hn : n = (k : Int)) (hk : k ≤ 8192) : Calls Tryz.prog 14 #[.int .i64 5, .int .i64 n] w (NrPost w (5 ^ k)) := by
  subst hn
  exact (rpow5 k hk w).mono fun e w' h => NrPost.of h

theorem nr_text (a : Value) (x : Nat) (w : World) (ha : Nr w a x) (hx : Sm x) : Calls Tryz.prog 33 #[a] w fun e w' => e = .returned (.string ⟨(Lib.decDigits x).toArray⟩) ∧ Below w.heap.size w w' := by
  obtain ⟨o, c, xs, rfl, h1, h3, h4⟩ := ha
  have l1 := nr_len h4 hx
  exact rtext_any o _ c x xs w (by omega) rfl h3 h4

theorem row_new1 (w : World) (m : Nat) : At .u64 (w.alloc (.cells #[.int .u64 (m : Int)] 22)) (some ⟨w.heap.size, 0, none⟩) [m] := Row.at (k := .u64) (e := 22) (heap_alloc_new w _)

/-- A number and an exponent are answered. -/
def NrPair (w : World) (n : Nat) (ex : Int) (e : Ending) (w' : World) : Prop := ∃ o c l, e = .returned (.tuple #[.slice o l c, .int .i64 ex]) ∧ Nr w' (.slice o l c) n ∧ Below w.heap.size w w'

/-- A kind of floats. -/
abbrev k64 : Value := .agg #[.int .i64 52, .int .i64 11]
abbrev k32 : Value := .agg #[.int .i64 23, .int .i64 8]

end Go.Proofs.YtpiloigpncbccacGreatDoor

namespace Go.Proofs.YtpiloigpncbccacGreatDoor
open Go.RowKit

/-- The Dec of N times 10^e, of a zero too. -/
def decZ (neg : Bool) (N : Nat) (e : Int) : DecT := if N = 0 then ⟨0, neg, [], 0⟩ else decA neg N e

/-- The text of a number. -/
def strN (N : Nat) : ByteArray := ⟨(Lib.decDigits N).toArray⟩

theorem strN_size (N : Nat) : (strN N).size = sizeN N := by simp [strN, sizeN, ByteArray.size]
theorem strN_bys (N : Nat) : bys (strN N) = Lib.decDigits N := by simp [strN, bys]
theorem strN_cut {N : Nat} (h : N ≠ 0) : (strN (N * 10)).extract 0 (sizeN N) = strN N := by
  unfold strN sizeN
  rw [dd_ten h, Lib.extract_mk]
  simp
theorem sizeN_ten {N : Nat} (h : N ≠ 0) : sizeN (N * 10) = sizeN N + 1 := by
  unfold sizeN; rw [dd_ten h]; simp

set_option maxHeartbeats 1000000 in
theorem rdec_zero (neg : Bool) (oa : Option Addr) (la ca : Nat) (n : Int) (w : World) (ha : Nr w (.slice oa la ca) 0) :
    Calls Tryz.prog 20 #[.bool neg, .slice oa la ca, .int .i64 n] w fun e w' => e = .returned (decVal (decZ neg 0 n)) ∧ Below w.heap.size w w' := by
  have hb0 : Below w.heap.size w (w.alloc (.cells #[.int .i64 0, .bool false, .string ⟨#[]⟩, .int .i64 0] 24)) := (Below.refl _ _).alloc (Nat.le_refl _) _
  have TX := nr_text _ 0 _ (ha.below hb0) (Sm.of (k := 1) (by omega) (by omega))
  obtain ⟨t, ht⟩ : ∃ t : ByteArray, t = ⟨(Lib.decDigits 0).toArray⟩ := ⟨_, rfl⟩
  rw [← ht] at TX
  have hq : (t.toList == [48]) = true := by rw [ht, ByteArray.toList_eq, Lib.decDigits_one (by omega)]; rfl
  have TXH := hide TX
  have HB0 := hide hb0
  have BLK := hide (Blk.new w #[.int .i64 0, .bool false, .string ⟨#[]⟩, .int .i64 0] 24)
  clear TX hb0 ha ht
  go_enter Tryz.func20, Tryz.ntmps20
  go_wp2_with fail
  refine TXH.out.mono ?_
  rintro e w1 ⟨rfl, hb1⟩
  have B1 := BLK.out.below hb1 BLK.out.lt
  have k0 : w1.cell? ⟨w.heap.size, 0, none⟩ = some (.int .i64 0) := B1.cell 0
  have k1 : w1.cell? ⟨w.heap.size, 1, none⟩ = some (.bool false) := B1.cell 1
  have k2 : w1.cell? ⟨w.heap.size, 2, none⟩ = some (.string ⟨#[]⟩) := B1.cell 2
  have k3 : w1.cell? ⟨w.heap.size, 3, none⟩ = some (.int .i64 0) := B1.cell 3
  have f0 := B1.free 0
  have f1 := B1.free 1
  have f2 := B1.free 2
  have f3 := B1.free 3
  have BL1 := hide B1
  have HB1 := hide (HB0.out.trans (hb1.mono (by simp)))
  clear B1 hb1 HB0 BLK TXH
  go_wp2
  refine bodyPost_ret (results_dec rfl _ _ _ _ _ _ _ rfl (BL1.out.put4 _ _ _ _)) rfl ?_
  exact ⟨rfl, below_put4 HB1.out (by omega) _ _ _ _⟩

set_option maxHeartbeats 2000000 in
theorem rdec_some (neg : Bool) (oa : Option Addr) (la ca N : Nat) (n : Int) (w : World) (ha : Nr w (.slice oa la ca) N) (h0 : N ≠ 0) (hs : sizeN N ≤ 5000) (hsm : Sm N) (h1 : -5000 ≤ n) (h2 : n ≤ 5000) :
    Calls Tryz.prog 20 #[.bool neg, .slice oa la ca, .int .i64 n] w fun e w' => e = .returned (decVal (decA neg N n)) ∧ Below w.heap.size w w' := by
  have hb0 : Below w.heap.size w (w.alloc (.cells #[.int .i64 0, .bool false, .string ⟨#[]⟩, .int .i64 0] 24)) := (Below.refl _ _).alloc (Nat.le_refl _) _
  have TX := nr_text _ N _ (ha.below hb0) hsm
  obtain ⟨M, k, hN, hM, hD⟩ := decA_form neg n h0
  have hM0 : M ≠ 0 := by omega
  have hk0 : ∀ i, M * 10 ^ i ≠ 0 := fun i => Nat.mul_ne_zero hM0 (by have := Nat.pow_pos (n := i) (show 0 < 10 by omega); omega)
  have hsz : ∀ i, sizeN (M * 10 ^ i) = sizeN M + i := by
    intro i
    induction i with
    | zero => simp
    | succ i ih => rw [Nat.pow_succ, ← Nat.mul_assoc, sizeN_ten (hk0 i), ih]; omega
  have hkl : sizeN M + k ≤ 5000 := by rw [← hsz, ← hN]; exact hs
  rw [hD]
  rw [hN] at TX
  have hMp := sizeN_pos M
  have hq : ((strN (M * 10 ^ k)).toList == [48]) = false := by
    have : Lib.decDigits (M * 10 ^ k) ≠ [48] := fun e => hk0 k (dd_zero e)
    rw [strN, ByteArray.toList_eq]
    simpa using this
  have TXH : Hid (Calls Tryz.prog 33 #[.slice oa la ca] (w.alloc (.cells #[.int .i64 0, .bool false, .string ⟨#[]⟩, .int .i64 0] 24)) fun e w' => e = .returned (.string (strN (M * 10 ^ k))) ∧ Below (w.alloc (.cells #[.int .i64 0, .bool false, .string ⟨#[]⟩, .int .i64 0] 24)).heap.size (w.alloc (.cells #[.int .i64 0, .bool false, .string ⟨#[]⟩, .int .i64 0] 24)) w') := TX
  have HB0 := hide hb0
  have BLK := hide (Blk.new w #[.int .i64 0, .bool false, .string ⟨#[]⟩, .int .i64 0] 24)
  have HSZ := hide hsz
  have HK0 := hide hk0
  have HL : Hid (byt (Lib.decDigits M) (sizeN M - 1) ≠ 48) := dd_last hM
  have FIN : Hid (decVal ⟨0, neg, Lib.decDigits M, n + (k : Int)⟩ = .agg #[.int .i64 0, .bool neg, .string (strN M), .int .i64 (n + (k : Int))]) := rfl
  clear TX hb0 ha hN hD hM hM0 hsz hk0 hs hsm h0
  rw [FIN.out]
  obtain ⟨t, ht⟩ : ∃ t, t = strN (M * 10 ^ k) := ⟨_, rfl⟩
  rw [← ht] at TXH hq
  have HTT := hide ht
  clear ht
  go_enter Tryz.func20, Tryz.ntmps20
  go_wp2_with fail
  refine TXH.out.mono ?_
  rintro e w1 ⟨rfl, hb1⟩
  have B1 := BLK.out.below hb1 BLK.out.lt
  have k0 : w1.cell? ⟨w.heap.size, 0, none⟩ = some (.int .i64 0) := B1.cell 0
  have k1 : w1.cell? ⟨w.heap.size, 1, none⟩ = some (.bool false) := B1.cell 1
  have k2 : w1.cell? ⟨w.heap.size, 2, none⟩ = some (.string ⟨#[]⟩) := B1.cell 2
  have k3 : w1.cell? ⟨w.heap.size, 3, none⟩ = some (.int .i64 0) := B1.cell 3
  have f0 := B1.free 0
  have f1 := B1.free 1
  have f2 := B1.free 2
  have f3 := B1.free 3
  have BL1 := hide B1
  have HB1 := hide (HB0.out.trans (hb1.mono (by simp)))
  clear B1 hb1 HB0 BLK TXH
  go_wp2
  go_loopw [2, 7] (fun ve vs wr => ∃ (i j : Nat) (s : ByteArray), i + j = k ∧ Hid (s = strN (M * 10 ^ i)) ∧ vs = .string s ∧ ve = .int .i64 (n + (j : Int)) ∧ wr = w1) (fun _ vs _ => Lib.strSize vs)
  case atStart => exact ⟨k, 0, t, rfl, HTT.out, rfl, by simp, rfl⟩
  case round =>
    clear hq HTT
    obtain ⟨i, j, s, hij, hs, rfl, rfl, rfl⟩ := hrel
    have hss : s.size = sizeN M + i := by rw [hs.out, strN_size, HSZ.out]
    obtain ⟨q, hqq⟩ : ∃ q, q = sizeN M + i - 1 := ⟨_, rfl⟩
    have hsq : s.size = q + 1 := by omega
    have hg : ∀ h : q < s.size, s[q].toNat = byt (bys s) q := fun h => byt_get s q h
    have hlt : q < s.size := by omega
    have hlt' : (q : Int) < (s.size : Int) := by omega
    have hqb : q ≤ 5000 := by omega
    rcases i with _ | i
    · obtain ⟨a, ha⟩ : ∃ a, a = byt (bys s) q := ⟨_, rfl⟩
      rw [← ha] at hg
      have hne : ((a : Int) == 48) = false := by
        have h1 := HL.out
        have e1 : bys s = Lib.decDigits M := by rw [hs.out, Nat.pow_zero, Nat.mul_one, strN_bys]
        rw [e1, hqq, Nat.add_zero] at ha
        rw [← ha] at h1
        have : ¬ (a : Int) = 48 := by omega
        simpa using this
      have hst : Hid (s = strN M) := by show s = strN M; rw [hs.out]; simp
      have hj : Hid ((j : Int) = (k : Int)) := by show (j : Int) = (k : Int); omega
      clear ha hs hij hss hqq
      go_wp2
      refine bodyPost_ret (results_dec rfl _ _ _ _ _ _ _ rfl (BL1.out.put4 _ _ _ _)) rfl ?_
      refine ⟨?_, below_put4 HB1.out (by omega) _ _ _ _⟩
      rw [hst.out, hj.out]
    · have hb : byt (bys s) q = 48 := by
        rw [hs.out, strN_bys, Nat.pow_succ, ← Nat.mul_assoc, dd_ten (HK0.out i), show q = (Lib.decDigits (M * 10 ^ i)).length by have := HSZ.out i; unfold sizeN at this; rw [this]; unfold sizeN at hqq; omega, byt_last]
        rfl
      rw [hb] at hg
      have hcut : s.extract 0 q = strN (M * 10 ^ i) := by
        have h := strN_cut (HK0.out i)
        rw [HSZ.out i] at h
        rw [hs.out, Nat.pow_succ, ← Nat.mul_assoc, hqq]
        exact h
      have hsl : ∀ W, (Instr.slice 9 (.string s) none (some (.int .i64 (q : Int))) none).run Tryz.prog W = .ok (.string (s.extract 0 q)) W := fun W => by
        simp [go_sem, Tryz.underlying9]; omega
      have HC := hide hcut
      have hsx : (s.extract 0 q).size = q := by rw [hcut, strN_size, HSZ.out]; omega
      clear hb hcut hs hss hqq
      go_wp2
      refine ⟨⟨i, j + 1, s.extract 0 q, by omega, HC.out, rfl, congrArg (Value.int IntKind.i64) (by omega), trivial⟩, ?_⟩
      rw [Lib.strSize_string, Lib.strSize_string]; omega

theorem rdec_any (neg : Bool) (oa : Option Addr) (la ca N : Nat) (n : Int) (w : World) (ha : Nr w (.slice oa la ca) N) (hs : sizeN N ≤ 5000) (hsm : Sm N) (h1 : -5000 ≤ n) (h2 : n ≤ 5000) :
    Calls Tryz.prog 20 #[.bool neg, .slice oa la ca, .int .i64 n] w fun e w' => e = .returned (decVal (decZ neg N n)) ∧ Below w.heap.size w w' := by
  by_cases h0 : N = 0
  · subst h0; exact rdec_zero neg oa la ca n w ha
  · unfold decZ; rw [if_neg h0]; exact rdec_some neg oa la ca N n w ha h0 hs hsm h1 h2

end Go.Proofs.YtpiloigpncbccacGreatDoor

namespace Go.Proofs.YtpiloigpncbccacGreatDoor
open Go.RowKit

theorem nr_cmp (a b : Value) (x y : Nat) (z : Int) (w : World) (ha : Nr w a x) (hb : Nr w b y) (hx : Sm x) (hy : Sm y) (hz : cmpN x y = z) : Calls Tryz.prog 11 #[a, b] w fun e w' => e = .returned (.int .i64 z) ∧ Below w.heap.size w w' := by
  obtain ⟨o, c, xs, rfl, h1, h3, h4⟩ := ha
  obtain ⟨o', c', ys, rfl, h1', h3', h4'⟩ := hb
  have l1 := nr_len h4 hx
  have l2 := nr_len h4' hy
  exact rcmp_any o o' _ c _ c' xs ys w h1 (by omega) h1' (by omega) rfl rfl h3 h3' h4.1 h4'.1 z (by rw [h4.2.2, h4'.2.2]; exact hz)

theorem nr_add (a b : Value) (x y : Nat) (w : World) (ha : Nr w a x) (hb : Nr w b y) (hx : Sm x) (hy : Sm y) : Calls Tryz.prog 19 #[a, b] w (NrPost w (x + y)) := by
  obtain ⟨o, c, xs, rfl, h1, h3, h4⟩ := ha
  obtain ⟨o', c', ys, rfl, h1', h3', h4'⟩ := hb
  have l1 := nr_len h4 hx
  have l2 := nr_len h4' hy
  refine (radd_any o o' _ c _ c' xs ys w (by omega) (by omega) rfl rfl h3 h3' h4.1 h4'.1).mono ?_
  intro e w' h
  rw [h4.2.2, h4'.2.2] at h
  exact NrPost.of h

/-- Quotient and rest are answered; the quotient's lowest digit. -/
def NrDiv (w : World) (q r : Nat) (e : Ending) (w' : World) : Prop :=
  ∃ o1 c1 l1 o2 c2 l2, e = .returned (.tuple #[.slice o1 l1 c1, .slice o2 l2 c2]) ∧ Nr w' (.slice o1 l1 c1) q ∧ Nr w' (.slice o2 l2 c2) r ∧ Below w.heap.size w w' ∧ (q ≠ 0 → 0 < l1 ∧ ∃ b f d, o1 = some ⟨b, f, none⟩ ∧ b < w'.heap.size ∧ w'.cell? ⟨b, f, none⟩ = some (.int .u32 ((d : Nat) : Int)) ∧ d < 65536 ∧ d % 2 = q % 2)

theorem num_even {xs : List Nat} : num 65536 xs % 2 = dg xs 0 % 2 := by
  have key : ∀ n, V 65536 (dg xs) (n + 1) % 2 = dg xs 0 % 2 := by
    intro n
    induction n with
    | zero => simp [V]
    | succ n ih =>
      show (V 65536 (dg xs) (n + 1) + dg xs (n + 1) * 65536 ^ (n + 1)) % 2 = _
      have e : dg xs (n + 1) * 65536 ^ (n + 1) = 2 * (dg xs (n + 1) * 65536 ^ n * 32768) := by
        rw [Nat.pow_succ, ← Nat.mul_assoc]; omega
      rw [e]; omega
  unfold num
  rcases hl : xs.length with _ | n
  · have : dg xs 0 = 0 := dg_out (by omega)
    rw [this]; rfl
  · exact key n

theorem nr_div (a b : Value) (x y : Nat) (w : World) (ha : Nr w a x) (hb : Nr w b y) (hx : Sm x) (hy : Sm y) (h0 : y ≠ 0) : Calls Tryz.prog 16 #[a, b] w (NrDiv w (x / y) (x % y)) := by
  obtain ⟨o, c, xs, rfl, h1, h3, h4⟩ := ha
  obtain ⟨o', c', ys, rfl, h1', h3', h4'⟩ := hb
  have l1 := nr_len h4 hx
  have l2 := nr_len h4' hy
  refine (rdivmod_any o o' _ c _ c' xs ys w (by omega) (by omega) h1' rfl rfl h3 h3' h4.1 h4'.1 h4'.2.1 (by rw [h4'.2.2]; omega)).mono ?_
  rintro e w' ⟨ao, ca, qs, bo, cb, rs, rfl, g1, g2, g3, g4, g5, g6, _, _, g7⟩
  rw [h4.2.2, h4'.2.2] at g5 g6
  refine ⟨ao, ca, qs.length, bo, cb, rs.length, rfl, ⟨ao, ca, qs, rfl, g1, g3, g5⟩, ⟨bo, cb, rs, rfl, g2, g4, g6⟩, by first | exact g7 | exact g7.1, fun hq => ?_⟩
  rcases g3 with h | ⟨b, f, rfl, hb, hc⟩
  · exfalso
    rw [h] at g5
    exact hq g5.2.2.symm
  · have hl : 0 < qs.length := by
      rcases hq0 : qs with _ | ⟨z, t⟩
      · rw [hq0] at g5; exact absurd g5.2.2.symm hq
      · simp
    refine ⟨hl, b, f, dg qs 0, rfl, hb, ?_, g5.1 0, ?_⟩
    · exact hc 0 hl
    · rw [← g5.2.2, num_even]

theorem nr_pow10 (n : Int) (k : Nat) (w : World) (hn : n = (k : Int)) (hk : k ≤ 8192) : Calls Tryz.prog 14 #[.int .i64 10, .int .i64 n] w (NrPost w (10 ^ k)) := by
  subst hn
  exact (rpow10 k hk w).mono fun e w' h => NrPost.of h

end Go.Proofs.YtpiloigpncbccacGreatDoor

namespace Go.Proofs.YtpiloigpncbccacGreatDoor
open Go.RowKit

/-- A Dec's digits as a whole number of 10^u. -/
def numD (d : DecT) (u : Int) : Nat := decV d.dig * 10 ^ (d.exp - u).toNat

theorem numD_val {d : DecT} {u : Int} (h1 : -1100 ≤ u) (h2 : u ≤ d.exp) : valD d = numD d u * 10 ^ (u + 1100).toNat := by
  unfold valD numD
  rw [Nat.mul_assoc, ← Nat.pow_add]
  congr 2
  omega

/-- What is asked of a Dec here. -/
structure Plain (d : DecT) : Prop where
  cls : d.cls = 0
  dig : DigB d.dig
  len : d.dig.length ≤ 1000
  lo : -1100 ≤ d.exp
  hi : d.exp ≤ 400

theorem Plain.of {d : DecT} {most : Nat} (h : Formed d most) (hm : most ≤ 1000) : Plain d := by
  refine ⟨h.cls, h.dig, Nat.le_trans h.len hm, ?_, ?_⟩
  · by_cases e : d.dig = []
    · rw [h.nil e]; omega
    · exact (h.cons e).2.2.1
  · by_cases e : d.dig = []
    · rw [h.nil e]; omega
    · exact (h.cons e).2.2.2

theorem numD_small {d : DecT} (h : Plain d) {u : Int} (h1 : -1100 ≤ u) : Sm (decV d.dig) ∧ Sm (10 ^ (d.exp - u).toNat) ∧ Sm (numD d u) := by
  have a1 := decV_lt _ d.dig rfl h.dig
  have h3 := h.len
  have h4 := h.hi
  have a2 : 10 ^ (d.exp - u).toNat < 10 ^ ((d.exp - u).toNat + 1) := (Nat.pow_lt_pow_iff_right (by omega : 1 < 10)).2 (by omega)
  refine ⟨Sm.of a1 (by omega), Sm.of a2 (by omega), ?_⟩
  have a3 := mul_lt10 a1 a2
  exact Sm.of a3 (by omega)

theorem numD_lt {d : DecT} (h : Plain d) {u : Int} (h1 : -1100 ≤ u) : ∃ j, j ≤ 2600 ∧ numD d u < 10 ^ j := by
  have a1 := decV_lt _ d.dig rfl h.dig
  have h3 := h.len
  have h4 := h.hi
  have a2 : 10 ^ (d.exp - u).toNat < 10 ^ ((d.exp - u).toNat + 1) := (Nat.pow_lt_pow_iff_right (by omega : 1 < 10)).2 (by omega)
  exact ⟨_, by omega, mul_lt10 a1 a2⟩

theorem numD_sum {d d' : DecT} (h : Plain d) (h' : Plain d') {u : Int} (h1 : -1100 ≤ u) : Sm (numD d u + numD d' u) := by
  obtain ⟨j, hj, a⟩ := numD_lt h h1
  obtain ⟨j', hj', a'⟩ := numD_lt h' h1
  have m1 := Nat.pow_le_pow_right (show 0 < 10 by omega) (show j ≤ j + j' by omega)
  have m2 := Nat.pow_le_pow_right (show 0 < 10 by omega) (show j' ≤ j + j' by omega)
  refine Sm.of (k := j + j' + 1) ?_ (by omega)
  rw [Nat.pow_succ]; omega

end Go.Proofs.YtpiloigpncbccacGreatDoor
