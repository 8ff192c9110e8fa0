/-
  What quipuref03's Of does, of any float; the walks of ShortestWide and ShortestNarrow.
-/
import Derived.Test.YtpiloigpncbccaaGreatDoorZSE
import Derived.Test.YtpiloigpncbccaaGreatDoorSOrdN
namespace Go.Proofs.YtpiloigpncbccaaGreatDoor
open Go.RowKit

set_option maxRecDepth 100000 in
set_option maxHeartbeats 1000000 in
theorem rof64_no (b : Nat) (w : World) (c ex : Int) (neg : Bool) (d : DecT) (hc : ¬ c = 0)
    (PT : ∀ W, Calls Tryz.prog 23 #[k64, .int .u64 (b : Int)] W fun e w' => e = .returned (.tuple #[.bool neg, .int .i64 c, .int .u64 0, .int .i64 ex]) ∧ Below W.heap.size W w')
    (EX : ∀ W, Calls Tryz.prog 15 #[k64, .int .u64 (b : Int)] W fun e w' => e = .returned (decVal d) ∧ Below W.heap.size W w') :
    Calls Tryz.prog 11 #[k64, .int .u64 (b : Int)] w fun e w' => e = .returned (decVal d) ∧ Below w.heap.size w w' := by
  have hc1 := hc
  have PTH := hide PT
  have EXH := hide EX
  have HB0 : Hid (Below w.heap.size w ((w.alloc (.cells #[.int .i64 52, .int .i64 11] 28)).alloc (.cells #[.int .i64 0, .bool false, .string ⟨#[]⟩, .int .i64 0] 25))) := ((Below.refl _ _).alloc (Nat.le_refl _) _).alloc (by simp) _
  have BLK := hide (Blk.newAt (w.alloc (.cells #[.int .i64 52, .int .i64 11] 28)) (w.heap.size + 1) (by simp) #[.int .i64 0, .bool false, .string ⟨#[]⟩, .int .i64 0] 25)
  have BLK0 := hide ((Blk.new w #[.int .i64 52, .int .i64 11] 28).alloc (.cells #[.int .i64 0, .bool false, .string ⟨#[]⟩, .int .i64 0] 25))
  clear PT EX
  go_enter Tryz.func11, Tryz.ntmps11
  go_wp2_with fail
  refine (PTH.out _).mono ?_
  rintro e w1 ⟨rfl, hb1⟩
  have B0 := BLK0.out.below hb1 BLK0.out.lt
  have c0 : w1.cell? ⟨w.heap.size, 0, none⟩ = some (.int .i64 52) := B0.cell 0
  have c1 : w1.cell? ⟨w.heap.size, 1, none⟩ = some (.int .i64 11) := B0.cell 1
  have BLK1 := hide (BLK.out.below hb1 BLK.out.lt)
  have HB1 := hide (HB0.out.trans (hb1.mono (by simp; omega)))
  clear B0 hb1 HB0 BLK BLK0 PTH
  go_wp2_with fail
  refine (EXH.out _).mono ?_
  rintro e w2 ⟨rfl, hb2⟩
  have BLK2 := hide (BLK1.out.below hb2 BLK1.out.lt)
  have HB2 := hide (HB1.out.trans (hb2.mono HB1.out.size))
  clear hb2 HB1 BLK1 EXH c0 c1
  have B9 := BLK2.out
  have k0 : w2.cell? ⟨w.heap.size + 1, 0, none⟩ = some (.int .i64 0) := B9.cell 0
  have k1 : w2.cell? ⟨w.heap.size + 1, 1, none⟩ = some (.bool false) := B9.cell 1
  have k2 : w2.cell? ⟨w.heap.size + 1, 2, none⟩ = some (.string ⟨#[]⟩) := B9.cell 2
  have k3 : w2.cell? ⟨w.heap.size + 1, 3, none⟩ = some (.int .i64 0) := B9.cell 3
  have f0 := B9.free 0
  have f1 := B9.free 1
  have f2 := B9.free 2
  have f3 := B9.free 3
  have BL9 := hide B9
  have FIN : Hid (decVal d = .agg #[.int .i64 (d.cls : Int), .bool d.neg, .string ⟨d.dig.toArray⟩, .int .i64 d.exp]) := rfl
  clear B9
  rw [FIN.out]
  simp only []
  repeat (first | go_values | go_skip | go_guarded | go_step | go_upon)
  refine bodyPost_ret (results_dec rfl _ _ _ _ _ _ _ rfl (BL9.out.put4 _ _ _ _)) rfl ?_
  exact ⟨rfl, below_put4 HB2.out (by omega) _ _ _ _⟩

set_option maxRecDepth 100000 in
set_option maxHeartbeats 1000000 in
theorem rof64_zero (b : Nat) (w : World) (c ex : Int) (neg : Bool) (d : DecT) (hc : c = 0)
    (PT : ∀ W, Calls Tryz.prog 23 #[k64, .int .u64 (b : Int)] W fun e w' => e = .returned (.tuple #[.bool neg, .int .i64 c, .int .u64 0, .int .i64 ex]) ∧ Below W.heap.size W w')
    (EX : ∀ W, Calls Tryz.prog 15 #[k64, .int .u64 (b : Int)] W fun e w' => e = .returned (decVal d) ∧ Below W.heap.size W w') :
    Calls Tryz.prog 11 #[k64, .int .u64 (b : Int)] w fun e w' => e = .returned (decVal d) ∧ Below w.heap.size w w' := by
  subst hc
  have PTH := hide PT
  have EXH := hide EX
  have HB0 : Hid (Below w.heap.size w ((w.alloc (.cells #[.int .i64 52, .int .i64 11] 28)).alloc (.cells #[.int .i64 0, .bool false, .string ⟨#[]⟩, .int .i64 0] 25))) := ((Below.refl _ _).alloc (Nat.le_refl _) _).alloc (by simp) _
  have BLK := hide (Blk.newAt (w.alloc (.cells #[.int .i64 52, .int .i64 11] 28)) (w.heap.size + 1) (by simp) #[.int .i64 0, .bool false, .string ⟨#[]⟩, .int .i64 0] 25)
  have BLK0 := hide ((Blk.new w #[.int .i64 52, .int .i64 11] 28).alloc (.cells #[.int .i64 0, .bool false, .string ⟨#[]⟩, .int .i64 0] 25))
  clear PT EX
  go_enter Tryz.func11, Tryz.ntmps11
  go_wp2_with fail
  refine (PTH.out _).mono ?_
  rintro e w1 ⟨rfl, hb1⟩
  have B0 := BLK0.out.below hb1 BLK0.out.lt
  have c0 : w1.cell? ⟨w.heap.size, 0, none⟩ = some (.int .i64 52) := B0.cell 0
  have c1 : w1.cell? ⟨w.heap.size, 1, none⟩ = some (.int .i64 11) := B0.cell 1
  have BLK1 := hide (BLK.out.below hb1 BLK.out.lt)
  have HB1 := hide (HB0.out.trans (hb1.mono (by simp; omega)))
  clear B0 hb1 HB0 BLK BLK0 PTH
  go_wp2_with fail
  refine (EXH.out _).mono ?_
  rintro e w2 ⟨rfl, hb2⟩
  have BLK2 := hide (BLK1.out.below hb2 BLK1.out.lt)
  have HB2 := hide (HB1.out.trans (hb2.mono HB1.out.size))
  clear hb2 HB1 BLK1 EXH c0 c1
  have B9 := BLK2.out
  have k0 : w2.cell? ⟨w.heap.size + 1, 0, none⟩ = some (.int .i64 0) := B9.cell 0
  have k1 : w2.cell? ⟨w.heap.size + 1, 1, none⟩ = some (.bool false) := B9.cell 1
  have k2 : w2.cell? ⟨w.heap.size + 1, 2, none⟩ = some (.string ⟨#[]⟩) := B9.cell 2
  have k3 : w2.cell? ⟨w.heap.size + 1, 3, none⟩ = some (.int .i64 0) := B9.cell 3
  have f0 := B9.free 0
  have f1 := B9.free 1
  have f2 := B9.free 2
  have f3 := B9.free 3
  have BL9 := hide B9
  have FIN : Hid (decVal d = .agg #[.int .i64 (d.cls : Int), .bool d.neg, .string ⟨d.dig.toArray⟩, .int .i64 d.exp]) := rfl
  clear B9
  rw [FIN.out]
  simp only []
  repeat (first | go_values | go_skip | go_guarded | go_step | go_upon)
  refine bodyPost_ret (results_dec rfl _ _ _ _ _ _ _ rfl (BL9.out.put4 _ _ _ _)) rfl ?_
  exact ⟨rfl, below_put4 HB2.out (by omega) _ _ _ _⟩

theorem rof64_any (b : Nat) (w : World) (hb : b < 18446744073709551616) : Calls Tryz.prog 11 #[k64, .int .u64 (b : Int)] w fun e w' => e = .returned (decVal (of64D b)) ∧ Below w.heap.size w w' := by
  have EX := fun W => rexact64_any b W hb
  obtain ⟨x, m, hx, hm, hxl, hml, mx, mm, ms⟩ := fields64 b hb
  have D : ∀ tell, decOf 52 11 tell b = (if x = 2047 then if m = 0 then ⟨1, decide (b / 2 ^ 52 / 2 ^ 11 ≠ 0), [], 0⟩ else ⟨2, false, [], 0⟩ else if x = 0 ∧ m = 0 then ⟨0, decide (b / 2 ^ 52 / 2 ^ 11 ≠ 0), [], 0⟩ else decA (decide (b / 2 ^ 52 / 2 ^ 11 ≠ 0)) (tell x m).1 (tell x m).2) := by
    intro tell
    rw [hx, hm]; rfl
  have e1 : (2 : Nat) ^ 52 = 4503599627370496 := by decide
  by_cases hx1 : x = 2047
  · have E : of64D b = ex64D b := by
      show decOf 52 11 _ b = decOf 52 11 _ b
      rw [D, D, if_pos hx1, if_pos hx1]
    rw [E]
    by_cases hm0 : m = 0
    · rcases ms with ⟨h1, h2⟩ | ⟨h1, h2⟩
      · exact rof64_no b w 1 0 true _ (by omega) (fun W => parts64_inf1 b x m W hxl mx mm h2 (by omega) (by omega)) EX
      · exact rof64_no b w 1 0 false _ (by omega) (fun W => parts64_inf0 b x m W hxl mx mm h2 (by omega) (by omega)) EX
    · rcases ms with ⟨h1, h2⟩ | ⟨h1, h2⟩
      · exact rof64_no b w 2 0 false _ (by omega) (fun W => parts64_nan1 b x m W hxl mx mm h2 (by omega) (by omega)) EX
      · exact rof64_no b w 2 0 false _ (by omega) (fun W => parts64_nan0 b x m W hxl mx mm h2 (by omega) (by omega)) EX
  · have PT : ∀ (neg : Bool), (neg = decide (b / 2 ^ 52 / 2 ^ 11 ≠ 0)) → ∀ W, Calls Tryz.prog 23 #[k64, .int .u64 (b : Int)] W fun e w' => e = .returned (.tuple #[.bool neg, .int .i64 0, .int .u64 ((fNum 52 x m : Nat) : Int), .int .i64 (fPow 1074 x)]) ∧ Below W.heap.size W w' := by
      intro neg hneg W
      unfold fNum fPow
      by_cases hx0 : x = 0
      · rw [if_pos hx0, if_pos hx0]
        rcases ms with ⟨h1, h2⟩ | ⟨h1, h2⟩
        · rw [hneg, decide_eq_true h1]; exact parts64_sub1 b x m W hxl mx mm h2 (by omega)
        · rw [hneg, decide_eq_false (by omega)]; exact parts64_sub0 b x m W hxl mx mm h2 (by omega)
      · rw [if_neg hx0, if_neg hx0, e1]
        rcases ms with ⟨h1, h2⟩ | ⟨h1, h2⟩
        · rw [hneg, decide_eq_true h1]; exact parts64_norm1 b x m W hxl mx mm h2 (by omega) (by omega) hml
        · rw [hneg, decide_eq_false (by omega)]; exact parts64_norm0 b x m W hxl mx mm h2 (by omega) (by omega) hml
    have PTN := PT _ rfl
    by_cases h0 : x = 0 ∧ m = 0
    · have E : of64D b = ex64D b := by
        show decOf 52 11 _ b = decOf 52 11 _ b
        rw [D, D, if_neg hx1, if_neg hx1, if_pos h0, if_pos h0]
      rw [E]
      have hz : fNum 52 x m = 0 := by unfold fNum; rw [if_pos h0.1, h0.2]
      rw [hz] at PTN
      exact rof64_zero b w 0 _ _ _ rfl PTN EX
    · have p1 : -1074 ≤ fPow 1074 x := by unfold fPow; split <;> omega
      have p2 : fPow 1074 x ≤ 971 := by unfold fPow; split <;> omega
      have hm2 : m < 2 ^ 52 := by rw [e1]; exact hml
      have hN : 1 ≤ fNum 52 x m := by unfold fNum; split <;> omega
      have hN2 : fNum 52 x m < 9007199254740992 := Nat.lt_of_lt_of_le (fNum_lt hm2) (Nat.le_trans (Nat.pow_le_pow_right (by omega) (show 52 + 1 ≤ 53 by omega)) (by decide))
      have g := nearOf_good (F := 52) (B := 1074) (x := x) (m := m) (by omega) hm2
      have hpp := p2N_pos (fPow 1074 x - 2)
      have h17 := fNum_lt17 (F := 52) (x := x) (m := m) (by omega) hm2
      have hparN : fNum 52 x m % 2 = m % 2 := by unfold fNum; rw [e1]; split <;> omega
      obtain ⟨j, hj⟩ : ∃ j : Nat, j = 1081 := ⟨_, rfl⟩
      have hpl : p2N (fPow 1074 x - 2) < 10 ^ j := p2N_lt (by omega) (by omega)
      have hA : p2N (fPow 1074 x - 2) * (fNum 52 x m * 4) < 10 ^ (j + 17) := mul_lt10 hpl h17
      have fin : of64D b = decA (decide (b / 2 ^ 52 / 2 ^ 11 ≠ 0)) (fewN (nearOf 52 1074 x m) (sizeN (nearOf 52 1074 x m).amt)).1 (p2E (fPow 1074 x - 2) + ((fewN (nearOf 52 1074 x m) (sizeN (nearOf 52 1074 x m).amt)).2 : Nat)) := by
        show decOf 52 11 _ b = _
        rw [D, if_neg hx1, if_neg h0]; rfl
      rw [fin]
      obtain ⟨lo4, hlo4⟩ : ∃ l, l = (if m = 0 ∧ 1 < x then 1 else 2 : Nat) := ⟨_, rfl⟩
      obtain ⟨P, hP⟩ : ∃ P, P = p2N (fPow 1074 x - 2) := ⟨_, rfl⟩
      have hl2 : lo4 ≤ 2 := by rw [hlo4]; split <;> omega
      obtain ⟨r, hr⟩ : ∃ r, r = nearOf 52 1074 x m := ⟨_, rfl⟩
      have ra : r.amt = P * (fNum 52 x m * 4) := by rw [hr, hP]; rfl
      have rlo : r.lo = lo4 * P := by rw [hr, hP, hlo4]; show (if m = 0 ∧ 1 < x then _ else _) = _; split <;> omega
      have rhi : r.hi = 2 * P := by rw [hr, hP]; show _ * 2 = _; omega
      have rcl : r.clo = decide (fNum 52 x m % 2 = 0) := by rw [hr]; show decide (m % 2 = 0) = _; rw [hparN]
      obtain ⟨N, hNN⟩ : ∃ N, N = fNum 52 x m := ⟨_, rfl⟩
      have RC : ∀ W, Calls Tryz.prog 24 #[k64, .int .u64 (N : Int), .int .i64 (fPow 1074 x)] W (RrPost W lo4 N r.clo) := by
        intro W
        rw [rcl, ← hNN]
        by_cases hc : m = 0 ∧ 1 < x
        · have q1 : N = 4503599627370496 := by rw [hNN]; unfold fNum; rw [e1, if_neg (by omega), hc.1]
          rw [hlo4, if_pos hc]
          exact rreach64_one N _ W (by omega) (by omega) (by unfold fPow; rw [if_neg (by omega)]; omega)
        · rw [hlo4, if_neg hc]
          by_cases hq : N = 4503599627370496
          · have q2 : ¬ x = 0 := fun e => by rw [hNN] at hq; unfold fNum at hq; rw [if_pos e] at hq; omega
            have q3 : m = 0 := by rw [hNN] at hq; unfold fNum at hq; rw [if_neg q2, e1] at hq; omega
            exact rreach64_low N _ W (by omega) (by omega) (by unfold fPow; rw [if_neg q2]; omega)
          · exact rreach64_two N _ W (by omega) (by omega)
      rw [← hNN] at ra hN PTN h17 hA hN2
      rw [← hP] at hpp hpl hA
      rw [← hr] at g ⊢
      have hmul : P * (N * 4) = N * 4 * P := Nat.mul_comm _ _
      have hP4 : P * 4 ≤ N * 4 * P := by rw [Nat.mul_comm P 4]; exact Nat.mul_le_mul_right _ (by omega)
      have hloP : lo4 * P ≤ 2 * P := Nat.mul_le_mul_right _ hl2
      have ok : OfOk r := by
        refine ⟨g, by omega, by omega, fun z hz => Sm.of (k := j + 17 + 1) ?_ (by omega)⟩
        rw [Nat.pow_succ]
        omega
      have hsz : sizeN r.amt ≤ 2000 := size_bound (A := r.amt) (j := j + 17) (by omega) (by omega) (by omega)
      have rl : r.amt - r.lo = (N * 4 - lo4) * P := by rw [ra, rlo, hmul, Nat.sub_mul]
      have rh : r.amt + r.hi = (N * 4 + 2) * P := by rw [ra, rhi, hmul, Nat.add_mul]
      have s1 : Sm (N * 4 + 2) := Sm.of (k := 18) (by
        have : (10 : Nat) ^ 17 = 100000000000000000 := by decide
        have : (10 : Nat) ^ 18 = 1000000000000000000 := by decide
        omega) (by omega)
      have s2 : Sm P := Sm.of hpl (by omega)
      by_cases h2 : fPow 1074 x < 2
      · obtain ⟨k, hk⟩ : ∃ k : Nat, fPow 1074 x = 2 - (k : Int) := ⟨(2 - fPow 1074 x).toNat, by omega⟩
        have hPk : P = 5 ^ k := by rw [hP]; unfold p2N; rw [if_pos (by omega), show (-(fPow 1074 x - 2)).toNat = k by omega]
        have hEk : p2E (fPow 1074 x - 2) = -(k : Int) := by unfold p2E; rw [if_pos (by omega)]; omega
        rw [hEk]
        rw [hPk] at ra rl rh s2
        exact rof64_neg b N lo4 k (fPow 1074 x) _ r w hN (by omega) ok hsz hk (by omega) (by rw [ra, Nat.mul_comm]) rl rh ⟨s1, s2⟩ PTN RC
      · obtain ⟨k, hk⟩ : ∃ k : Nat, fPow 1074 x = (k : Int) + 2 := ⟨(fPow 1074 x - 2).toNat, by omega⟩
        have hPk : P = 2 ^ k := by rw [hP]; unfold p2N; rw [if_neg (by omega), show (fPow 1074 x - 2).toNat = k by omega]
        have hEk : p2E (fPow 1074 x - 2) = 0 := by unfold p2E; rw [if_neg (by omega)]
        rw [hEk]
        rw [hPk] at ra rl rh s2
        exact rof64_pos b N lo4 k (fPow 1074 x) _ r w hN (by omega) ok hsz hk (by omega) (by rw [ra, Nat.mul_comm]) rl rh ⟨s1, s2⟩ PTN RC

set_option maxRecDepth 100000 in
set_option maxHeartbeats 1000000 in
theorem rof32_no (b : Nat) (w : World) (c ex : Int) (neg : Bool) (d : DecT) (hc : ¬ c = 0)
    (PT : ∀ W, Calls Tryz.prog 23 #[k32, .int .u64 (b : Int)] W fun e w' => e = .returned (.tuple #[.bool neg, .int .i64 c, .int .u64 0, .int .i64 ex]) ∧ Below W.heap.size W w')
    (EX : ∀ W, Calls Tryz.prog 15 #[k32, .int .u64 (b : Int)] W fun e w' => e = .returned (decVal d) ∧ Below W.heap.size W w') :
    Calls Tryz.prog 11 #[k32, .int .u64 (b : Int)] w fun e w' => e = .returned (decVal d) ∧ Below w.heap.size w w' := by
  have hc1 := hc
  have PTH := hide PT
  have EXH := hide EX
  have HB0 : Hid (Below w.heap.size w ((w.alloc (.cells #[.int .i64 23, .int .i64 8] 28)).alloc (.cells #[.int .i64 0, .bool false, .string ⟨#[]⟩, .int .i64 0] 25))) := ((Below.refl _ _).alloc (Nat.le_refl _) _).alloc (by simp) _
  have BLK := hide (Blk.newAt (w.alloc (.cells #[.int .i64 23, .int .i64 8] 28)) (w.heap.size + 1) (by simp) #[.int .i64 0, .bool false, .string ⟨#[]⟩, .int .i64 0] 25)
  have BLK0 := hide ((Blk.new w #[.int .i64 23, .int .i64 8] 28).alloc (.cells #[.int .i64 0, .bool false, .string ⟨#[]⟩, .int .i64 0] 25))
  clear PT EX
  go_enter Tryz.func11, Tryz.ntmps11
  go_wp2_with fail
  refine (PTH.out _).mono ?_
  rintro e w1 ⟨rfl, hb1⟩
  have B0 := BLK0.out.below hb1 BLK0.out.lt
  have c0 : w1.cell? ⟨w.heap.size, 0, none⟩ = some (.int .i64 23) := B0.cell 0
  have c1 : w1.cell? ⟨w.heap.size, 1, none⟩ = some (.int .i64 8) := B0.cell 1
  have BLK1 := hide (BLK.out.below hb1 BLK.out.lt)
  have HB1 := hide (HB0.out.trans (hb1.mono (by simp; omega)))
  clear B0 hb1 HB0 BLK BLK0 PTH
  go_wp2_with fail
  refine (EXH.out _).mono ?_
  rintro e w2 ⟨rfl, hb2⟩
  have BLK2 := hide (BLK1.out.below hb2 BLK1.out.lt)
  have HB2 := hide (HB1.out.trans (hb2.mono HB1.out.size))
  clear hb2 HB1 BLK1 EXH c0 c1
  have B9 := BLK2.out
  have k0 : w2.cell? ⟨w.heap.size + 1, 0, none⟩ = some (.int .i64 0) := B9.cell 0
  have k1 : w2.cell? ⟨w.heap.size + 1, 1, none⟩ = some (.bool false) := B9.cell 1
  have k2 : w2.cell? ⟨w.heap.size + 1, 2, none⟩ = some (.string ⟨#[]⟩) := B9.cell 2
  have k3 : w2.cell? ⟨w.heap.size + 1, 3, none⟩ = some (.int .i64 0) := B9.cell 3
  have f0 := B9.free 0
  have f1 := B9.free 1
  have f2 := B9.free 2
  have f3 := B9.free 3
  have BL9 := hide B9
  have FIN : Hid (decVal d = .agg #[.int .i64 (d.cls : Int), .bool d.neg, .string ⟨d.dig.toArray⟩, .int .i64 d.exp]) := rfl
  clear B9
  rw [FIN.out]
  simp only []
  repeat (first | go_values | go_skip | go_guarded | go_step | go_upon)
  refine bodyPost_ret (results_dec rfl _ _ _ _ _ _ _ rfl (BL9.out.put4 _ _ _ _)) rfl ?_
  exact ⟨rfl, below_put4 HB2.out (by omega) _ _ _ _⟩

set_option maxRecDepth 100000 in
set_option maxHeartbeats 1000000 in
theorem rof32_zero (b : Nat) (w : World) (c ex : Int) (neg : Bool) (d : DecT) (hc : c = 0)
    (PT : ∀ W, Calls Tryz.prog 23 #[k32, .int .u64 (b : Int)] W fun e w' => e = .returned (.tuple #[.bool neg, .int .i64 c, .int .u64 0, .int .i64 ex]) ∧ Below W.heap.size W w')
    (EX : ∀ W, Calls Tryz.prog 15 #[k32, .int .u64 (b : Int)] W fun e w' => e = .returned (decVal d) ∧ Below W.heap.size W w') :
    Calls Tryz.prog 11 #[k32, .int .u64 (b : Int)] w fun e w' => e = .returned (decVal d) ∧ Below w.heap.size w w' := by
  subst hc
  have PTH := hide PT
  have EXH := hide EX
  have HB0 : Hid (Below w.heap.size w ((w.alloc (.cells #[.int .i64 23, .int .i64 8] 28)).alloc (.cells #[.int .i64 0, .bool false, .string ⟨#[]⟩, .int .i64 0] 25))) := ((Below.refl _ _).alloc (Nat.le_refl _) _).alloc (by simp) _
  have BLK := hide (Blk.newAt (w.alloc (.cells #[.int .i64 23, .int .i64 8] 28)) (w.heap.size + 1) (by simp) #[.int .i64 0, .bool false, .string ⟨#[]⟩, .int .i64 0] 25)
  have BLK0 := hide ((Blk.new w #[.int .i64 23, .int .i64 8] 28).alloc (.cells #[.int .i64 0, .bool false, .string ⟨#[]⟩, .int .i64 0] 25))
  clear PT EX
  go_enter Tryz.func11, Tryz.ntmps11
  go_wp2_with fail
  refine (PTH.out _).mono ?_
  rintro e w1 ⟨rfl, hb1⟩
  have B0 := BLK0.out.below hb1 BLK0.out.lt
  have c0 : w1.cell? ⟨w.heap.size, 0, none⟩ = some (.int .i64 23) := B0.cell 0
  have c1 : w1.cell? ⟨w.heap.size, 1, none⟩ = some (.int .i64 8) := B0.cell 1
  have BLK1 := hide (BLK.out.below hb1 BLK.out.lt)
  have HB1 := hide (HB0.out.trans (hb1.mono (by simp; omega)))
  clear B0 hb1 HB0 BLK BLK0 PTH
  go_wp2_with fail
  refine (EXH.out _).mono ?_
  rintro e w2 ⟨rfl, hb2⟩
  have BLK2 := hide (BLK1.out.below hb2 BLK1.out.lt)
  have HB2 := hide (HB1.out.trans (hb2.mono HB1.out.size))
  clear hb2 HB1 BLK1 EXH c0 c1
  have B9 := BLK2.out
  have k0 : w2.cell? ⟨w.heap.size + 1, 0, none⟩ = some (.int .i64 0) := B9.cell 0
  have k1 : w2.cell? ⟨w.heap.size + 1, 1, none⟩ = some (.bool false) := B9.cell 1
  have k2 : w2.cell? ⟨w.heap.size + 1, 2, none⟩ = some (.string ⟨#[]⟩) := B9.cell 2
  have k3 : w2.cell? ⟨w.heap.size + 1, 3, none⟩ = some (.int .i64 0) := B9.cell 3
  have f0 := B9.free 0
  have f1 := B9.free 1
  have f2 := B9.free 2
  have f3 := B9.free 3
  have BL9 := hide B9
  have FIN : Hid (decVal d = .agg #[.int .i64 (d.cls : Int), .bool d.neg, .string ⟨d.dig.toArray⟩, .int .i64 d.exp]) := rfl
  clear B9
  rw [FIN.out]
  simp only []
  repeat (first | go_values | go_skip | go_guarded | go_step | go_upon)
  refine bodyPost_ret (results_dec rfl _ _ _ _ _ _ _ rfl (BL9.out.put4 _ _ _ _)) rfl ?_
  exact ⟨rfl, below_put4 HB2.out (by omega) _ _ _ _⟩

theorem rof32_any (b : Nat) (w : World) (hb : b < 4294967296) : Calls Tryz.prog 11 #[k32, .int .u64 (b : Int)] w fun e w' => e = .returned (decVal (of32D b)) ∧ Below w.heap.size w w' := by
  have EX := fun W => rexact32_any b W hb
  obtain ⟨x, m, hx, hm, hxl, hml, mx, mm, ms⟩ := fields32 b hb
  have D : ∀ tell, decOf 23 8 tell b = (if x = 255 then if m = 0 then ⟨1, decide (b / 2 ^ 23 / 2 ^ 8 ≠ 0), [], 0⟩ else ⟨2, false, [], 0⟩ else if x = 0 ∧ m = 0 then ⟨0, decide (b / 2 ^ 23 / 2 ^ 8 ≠ 0), [], 0⟩ else decA (decide (b / 2 ^ 23 / 2 ^ 8 ≠ 0)) (tell x m).1 (tell x m).2) := by
    intro tell
    rw [hx, hm]; rfl
  have e1 : (2 : Nat) ^ 23 = 8388608 := by decide
  by_cases hx1 : x = 255
  · have E : of32D b = ex32D b := by
      show decOf 23 8 _ b = decOf 23 8 _ b
      rw [D, D, if_pos hx1, if_pos hx1]
    rw [E]
    by_cases hm0 : m = 0
    · rcases ms with ⟨h1, h2⟩ | ⟨h1, h2⟩
      · exact rof32_no b w 1 0 true _ (by omega) (fun W => parts32_inf1 b x m W hxl mx mm h2 (by omega) (by omega)) EX
      · exact rof32_no b w 1 0 false _ (by omega) (fun W => parts32_inf0 b x m W hxl mx mm h2 (by omega) (by omega)) EX
    · rcases ms with ⟨h1, h2⟩ | ⟨h1, h2⟩
      · exact rof32_no b w 2 0 false _ (by omega) (fun W => parts32_nan1 b x m W hxl mx mm h2 (by omega) (by omega)) EX
      · exact rof32_no b w 2 0 false _ (by omega) (fun W => parts32_nan0 b x m W hxl mx mm h2 (by omega) (by omega)) EX
  · have PT : ∀ (neg : Bool), (neg = decide (b / 2 ^ 23 / 2 ^ 8 ≠ 0)) → ∀ W, Calls Tryz.prog 23 #[k32, .int .u64 (b : Int)] W fun e w' => e = .returned (.tuple #[.bool neg, .int .i64 0, .int .u64 ((fNum 23 x m : Nat) : Int), .int .i64 (fPow 149 x)]) ∧ Below W.heap.size W w' := by
      intro neg hneg W
      unfold fNum fPow
      by_cases hx0 : x = 0
      · rw [if_pos hx0, if_pos hx0]
        rcases ms with ⟨h1, h2⟩ | ⟨h1, h2⟩
        · rw [hneg, decide_eq_true h1]; exact parts32_sub1 b x m W hxl mx mm h2 (by omega)
        · rw [hneg, decide_eq_false (by omega)]; exact parts32_sub0 b x m W hxl mx mm h2 (by omega)
      · rw [if_neg hx0, if_neg hx0, e1]
        rcases ms with ⟨h1, h2⟩ | ⟨h1, h2⟩
        · rw [hneg, decide_eq_true h1]; exact parts32_norm1 b x m W hxl mx mm h2 (by omega) (by omega) hml
        · rw [hneg, decide_eq_false (by omega)]; exact parts32_norm0 b x m W hxl mx mm h2 (by omega) (by omega) hml
    have PTN := PT _ rfl
    by_cases h0 : x = 0 ∧ m = 0
    · have E : of32D b = ex32D b := by
        show decOf 23 8 _ b = decOf 23 8 _ b
        rw [D, D, if_neg hx1, if_neg hx1, if_pos h0, if_pos h0]
      rw [E]
      have hz : fNum 23 x m = 0 := by unfold fNum; rw [if_pos h0.1, h0.2]
      rw [hz] at PTN
      exact rof32_zero b w 0 _ _ _ rfl PTN EX
    · have p1 : -149 ≤ fPow 149 x := by unfold fPow; split <;> omega
      have p2 : fPow 149 x ≤ 971 := by unfold fPow; split <;> omega
      have hm2 : m < 2 ^ 23 := by rw [e1]; exact hml
      have hN : 1 ≤ fNum 23 x m := by unfold fNum; split <;> omega
      have hN2 : fNum 23 x m < 9007199254740992 := Nat.lt_of_lt_of_le (fNum_lt hm2) (Nat.le_trans (Nat.pow_le_pow_right (by omega) (show 23 + 1 ≤ 53 by omega)) (by decide))
      have g := nearOf_good (F := 23) (B := 149) (x := x) (m := m) (by omega) hm2
      have hpp := p2N_pos (fPow 149 x - 2)
      have h17 := fNum_lt17 (F := 23) (x := x) (m := m) (by omega) hm2
      have hparN : fNum 23 x m % 2 = m % 2 := by unfold fNum; rw [e1]; split <;> omega
      obtain ⟨j, hj⟩ : ∃ j : Nat, j = 1081 := ⟨_, rfl⟩
      have hpl : p2N (fPow 149 x - 2) < 10 ^ j := p2N_lt (by omega) (by omega)
      have hA : p2N (fPow 149 x - 2) * (fNum 23 x m * 4) < 10 ^ (j + 17) := mul_lt10 hpl h17
      have fin : of32D b = decA (decide (b / 2 ^ 23 / 2 ^ 8 ≠ 0)) (fewN (nearOf 23 149 x m) (sizeN (nearOf 23 149 x m).amt)).1 (p2E (fPow 149 x - 2) + ((fewN (nearOf 23 149 x m) (sizeN (nearOf 23 149 x m).amt)).2 : Nat)) := by
        show decOf 23 8 _ b = _
        rw [D, if_neg hx1, if_neg h0]; rfl
      rw [fin]
      obtain ⟨lo4, hlo4⟩ : ∃ l, l = (if m = 0 ∧ 1 < x then 1 else 2 : Nat) := ⟨_, rfl⟩
      obtain ⟨P, hP⟩ : ∃ P, P = p2N (fPow 149 x - 2) := ⟨_, rfl⟩
      have hl2 : lo4 ≤ 2 := by rw [hlo4]; split <;> omega
      obtain ⟨r, hr⟩ : ∃ r, r = nearOf 23 149 x m := ⟨_, rfl⟩
      have ra : r.amt = P * (fNum 23 x m * 4) := by rw [hr, hP]; rfl
      have rlo : r.lo = lo4 * P := by rw [hr, hP, hlo4]; show (if m = 0 ∧ 1 < x then _ else _) = _; split <;> omega
      have rhi : r.hi = 2 * P := by rw [hr, hP]; show _ * 2 = _; omega
      have rcl : r.clo = decide (fNum 23 x m % 2 = 0) := by rw [hr]; show decide (m % 2 = 0) = _; rw [hparN]
      obtain ⟨N, hNN⟩ : ∃ N, N = fNum 23 x m := ⟨_, rfl⟩
      have RC : ∀ W, Calls Tryz.prog 24 #[k32, .int .u64 (N : Int), .int .i64 (fPow 149 x)] W (RrPost W lo4 N r.clo) := by
        intro W
        rw [rcl, ← hNN]
        by_cases hc : m = 0 ∧ 1 < x
        · have q1 : N = 8388608 := by rw [hNN]; unfold fNum; rw [e1, if_neg (by omega), hc.1]
          rw [hlo4, if_pos hc]
          exact rreach32_one N _ W (by omega) (by omega) (by unfold fPow; rw [if_neg (by omega)]; omega)
        · rw [hlo4, if_neg hc]
          by_cases hq : N = 8388608
          · have q2 : ¬ x = 0 := fun e => by rw [hNN] at hq; unfold fNum at hq; rw [if_pos e] at hq; omega
            have q3 : m = 0 := by rw [hNN] at hq; unfold fNum at hq; rw [if_neg q2, e1] at hq; omega
            exact rreach32_low N _ W (by omega) (by omega) (by unfold fPow; rw [if_neg q2]; omega)
          · exact rreach32_two N _ W (by omega) (by omega)
      rw [← hNN] at ra hN PTN h17 hA hN2
      rw [← hP] at hpp hpl hA
      rw [← hr] at g ⊢
      have hmul : P * (N * 4) = N * 4 * P := Nat.mul_comm _ _
      have hP4 : P * 4 ≤ N * 4 * P := by rw [Nat.mul_comm P 4]; exact Nat.mul_le_mul_right _ (by omega)
      have hloP : lo4 * P ≤ 2 * P := Nat.mul_le_mul_right _ hl2
      have ok : OfOk r := by
        refine ⟨g, by omega, by omega, fun z hz => Sm.of (k := j + 17 + 1) ?_ (by omega)⟩
        rw [Nat.pow_succ]
        omega
      have hsz : sizeN r.amt ≤ 2000 := size_bound (A := r.amt) (j := j + 17) (by omega) (by omega) (by omega)
      have rl : r.amt - r.lo = (N * 4 - lo4) * P := by rw [ra, rlo, hmul, Nat.sub_mul]
      have rh : r.amt + r.hi = (N * 4 + 2) * P := by rw [ra, rhi, hmul, Nat.add_mul]
      have s1 : Sm (N * 4 + 2) := Sm.of (k := 18) (by
        have : (10 : Nat) ^ 17 = 100000000000000000 := by decide
        have : (10 : Nat) ^ 18 = 1000000000000000000 := by decide
        omega) (by omega)
      have s2 : Sm P := Sm.of hpl (by omega)
      by_cases h2 : fPow 149 x < 2
      · obtain ⟨k, hk⟩ : ∃ k : Nat, fPow 149 x = 2 - (k : Int) := ⟨(2 - fPow 149 x).toNat, by omega⟩
        have hPk : P = 5 ^ k := by rw [hP]; unfold p2N; rw [if_pos (by omega), show (-(fPow 149 x - 2)).toNat = k by omega]
        have hEk : p2E (fPow 149 x - 2) = -(k : Int) := by unfold p2E; rw [if_pos (by omega)]; omega
        rw [hEk]
        rw [hPk] at ra rl rh s2
        exact rof32_neg b N lo4 k (fPow 149 x) _ r w hN (by omega) ok hsz hk (by omega) (by rw [ra, Nat.mul_comm]) rl rh ⟨s1, s2⟩ PTN RC
      · obtain ⟨k, hk⟩ : ∃ k : Nat, fPow 149 x = (k : Int) + 2 := ⟨(fPow 149 x - 2).toNat, by omega⟩
        have hPk : P = 2 ^ k := by rw [hP]; unfold p2N; rw [if_neg (by omega), show (fPow 149 x - 2).toNat = k by omega]
        have hEk : p2E (fPow 149 x - 2) = 0 := by unfold p2E; rw [if_neg (by omega)]
        rw [hEk]
        rw [hPk] at ra rl rh s2
        exact rof32_pos b N lo4 k (fPow 149 x) _ r w hN (by omega) ok hsz hk (by omega) (by rw [ra, Nat.mul_comm]) rl rh ⟨s1, s2⟩ PTN RC

set_option maxHeartbeats 2000000 in
theorem wide_walk (w : World) (htab : Tab w) (a : Nat) (ha : a < 18446744073709551616) :
    Calls Tryz.prog 3 #[.int .u64 (a : Int)] w fun e w' => e = .returned (.bool true) ∧ Below w.heap.size w w' := by
  have AW := hide (awake_any w htab)
  have E1 := hide (fun W => of64_any a W ha)
  have R1 := hide (fun W => rof64_any a W ha)
  have HT := hide htab
  obtain ⟨da, hda⟩ : ∃ d, d = of64D a := ⟨_, rfl⟩
  rw [← hda] at E1 R1
  have FA : Hid (decVal da = .agg #[.int .i64 (da.cls : Int), .bool da.neg, .string ⟨da.dig.toArray⟩, .int .i64 da.exp]) := rfl
  obtain ⟨ac, hac⟩ : ∃ z : Int, z = (da.cls : Int) := ⟨_, rfl⟩
  obtain ⟨an, han⟩ : ∃ z, z = da.neg := ⟨_, rfl⟩
  obtain ⟨at1, hat⟩ : ∃ z : ByteArray, z = ⟨da.dig.toArray⟩ := ⟨_, rfl⟩
  obtain ⟨ae, hae⟩ : ∃ z, z = da.exp := ⟨_, rfl⟩
  rw [← hac, ← han, ← hat, ← hae] at FA
  rw [FA.out] at E1 R1
  clear htab FA hda hac han hat hae
  go_enter Tryz.func3, Tryz.ntmps3
  go_wp2_with fail
  refine AW.out.mono ?_
  rintro e w1 ⟨rfl, hb1⟩
  have HB1 := hide hb1
  clear hb1 AW
  go_wp2_with fail
  refine (E1.out _ (HT.out.below HB1.out)).mono ?_
  rintro e w2 ⟨rfl, hb2⟩
  have HB2 := hide (HB1.out.trans (hb2.mono HB1.out.size))
  clear hb2 HB1 E1
  go_wp2_with fail
  refine (wide_any _).mono ?_
  rintro e w3 ⟨rfl, hb3⟩
  have HB3 := hide (HB2.out.trans (hb3.mono HB2.out.size))
  clear hb3 HB2
  go_wp2_with fail
  refine (R1.out _).mono ?_
  rintro e w4 ⟨rfl, hb4⟩
  have HB4 := hide (HB3.out.trans (hb4.mono HB3.out.size))
  clear hb4 HB3 R1
  go_wp2
  go_ret
  exact ⟨rfl, HB4.out⟩

set_option maxHeartbeats 2000000 in
theorem narrow_walk (w : World) (htab : Tab w) (a : Nat) (ha : a < 4294967296) :
    Calls Tryz.prog 4 #[.int .u32 (a : Int)] w fun e w' => e = .returned (.bool true) ∧ Below w.heap.size w w' := by
  have AW := hide (awake_any w htab)
  have E1 := hide (fun W => of32_any a W ha)
  have R1 := hide (fun W => rof32_any a W ha)
  have HT := hide htab
  obtain ⟨da, hda⟩ : ∃ d, d = of32D a := ⟨_, rfl⟩
  rw [← hda] at E1 R1
  have FA : Hid (decVal da = .agg #[.int .i64 (da.cls : Int), .bool da.neg, .string ⟨da.dig.toArray⟩, .int .i64 da.exp]) := rfl
  obtain ⟨ac, hac⟩ : ∃ z : Int, z = (da.cls : Int) := ⟨_, rfl⟩
  obtain ⟨an, han⟩ : ∃ z, z = da.neg := ⟨_, rfl⟩
  obtain ⟨at1, hat⟩ : ∃ z : ByteArray, z = ⟨da.dig.toArray⟩ := ⟨_, rfl⟩
  obtain ⟨ae, hae⟩ : ∃ z, z = da.exp := ⟨_, rfl⟩
  rw [← hac, ← han, ← hat, ← hae] at FA
  rw [FA.out] at E1 R1
  clear htab FA hda hac han hat hae
  go_enter Tryz.func4, Tryz.ntmps4
  go_wp2_with fail
  refine AW.out.mono ?_
  rintro e w1 ⟨rfl, hb1⟩
  have HB1 := hide hb1
  clear hb1 AW
  go_wp2_with fail
  refine (E1.out _ (HT.out.below HB1.out)).mono ?_
  rintro e w2 ⟨rfl, hb2⟩
  have HB2 := hide (HB1.out.trans (hb2.mono HB1.out.size))
  clear hb2 HB1 E1
  go_wp2_with fail
  refine (narrow_any _).mono ?_
  rintro e w3 ⟨rfl, hb3⟩
  have HB3 := hide (HB2.out.trans (hb3.mono HB2.out.size))
  clear hb3 HB2
  go_wp2_with fail
  refine (R1.out _).mono ?_
  rintro e w4 ⟨rfl, hb4⟩
  have HB4 := hide (HB3.out.trans (hb4.mono HB3.out.size))
  clear hb4 HB3 R1
  go_wp2
  go_ret
  exact ⟨rfl, HB4.out⟩

end Go.Proofs.YtpiloigpncbccaaGreatDoor
