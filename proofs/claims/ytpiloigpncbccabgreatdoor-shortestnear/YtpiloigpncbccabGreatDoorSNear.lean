/-
  The walk of ShortestNear.
-/
import Derived.Test.YtpiloigpncbccabGreatDoorZSR
import Derived.Laws.BitsAllLaws
import Derived.Laws.Small
namespace Go.Proofs.YtpiloigpncbccabGreatDoor
open Go.RowKit

theorem formed_zero' (neg : Bool) (most : Nat) : Formed ⟨0, neg, [], 0⟩ most := ⟨rfl, Nat.zero_le _, fun k hk => by simp at hk, fun _ => rfl, fun h => absurd rfl h⟩

theorem formed_two {a : Nat} (h : a < 9218868437227405312) : Formed (of64D a) 17 ∧ Formed (ex64D a) 767 := by
  obtain ⟨_, g2, _⟩ := pos_fields h
  by_cases h0 : a = 0
  · subst h0
    rw [show of64D 0 = _ from zero_dec _, show ex64D 0 = _ from zero_dec _]
    exact ⟨formed_zero' _ _, formed_zero' _ _⟩
  · have e1 : (2 : Nat) ^ 52 = 4503599627370496 := by decide
    have hm : a % 2 ^ 52 < 2 ^ 52 := Nat.mod_lt _ (by omega)
    have hb := fPow_bounds h
    rw [show of64D a = _ from pos_dec h h0 _, show ex64D a = _ from pos_dec h h0 _]
    exact ⟨(fewD_formed _ (by omega) hm (by rw [e1]; omega) hb.1 hb.2).1, (allD_formed _ (by omega) hm (by rw [e1]; omega) hb.1 hb.2).1⟩

theorem clear_top' (a : Nat) (ha : a < 18446744073709551616) : bits .andNot .u64 (a : Int) 9223372036854775808 = ((a % 9223372036854775808 : Nat) : Int) := by
  have h := u64_andNot_nat a 9223372036854775808 ha (by omega)
  rw [show (18446744073709551615 - 9223372036854775808 : Nat) = 2 ^ 63 - 1 by decide, Nat.and_two_pow_sub_one_eq_mod, show (2 : Nat) ^ 63 = 9223372036854775808 by decide] at h
  exact h

theorem min4 (e0 e1 e2 e3 u : Int) (hu : u = min e0 (min e1 (min e2 e3))) (w : World) (ts : Array TypeId) (t : TypeId) : (Builtin.min_ ts t #[.int .i64 e0, .int .i64 e1, .int .i64 e2, .int .i64 e3]).run Tryz.prog w = .ok (.int .i64 u) w := by
  have h : (Builtin.min_ ts t #[.int .i64 e0, .int .i64 e1, .int .i64 e2, .int .i64 e3]).run Tryz.prog w = .ok (.int .i64 (if e3 < (if e2 < (if e1 < e0 then e1 else e0) then e2 else (if e1 < e0 then e1 else e0)) then e3 else (if e2 < (if e1 < e0 then e1 else e0) then e2 else (if e1 < e0 then e1 else e0)))) w := by
    simp [Builtin.min_, Builtin.min2]
  rw [h, hu]
  congr 2
  split <;> split <;> split <;> omega

/-- How twice the fewest digits stand to the sums of the neighbours' digits. -/
theorem near_cmp {x : Nat} (h0 : x ≠ 0) (h : x + 1 < 9218868437227405312) {u : Int} (h1 : -1100 ≤ u) (a0 : u ≤ (of64D x).exp) (a1 : u ≤ (ex64D (x - 1)).exp) (a2 : u ≤ (ex64D x).exp) (a3 : u ≤ (ex64D (x + 1)).exp) :
    ∃ za zb : Int, cmpN (numD (ex64D (x - 1)) u + numD (ex64D x) u) (numD (of64D x) u + numD (of64D x) u) = za ∧ cmpN (numD (of64D x) u + numD (of64D x) u) (numD (ex64D x) u + numD (ex64D (x + 1)) u) = zb ∧ za ≤ 0 ∧ zb ≤ 0 ∧ (x % 2 = 1 → za = -1 ∧ zb = -1) := by
  obtain ⟨⟨u1, u2⟩, l⟩ := val_of (a := x) (by omega)
  obtain ⟨l1, l2⟩ := l h0
  have v1 := val_ex (a := x - 1) (by omega)
  have v2 := val_ex (a := x) (by omega)
  have v3 := val_ex (a := x + 1) h
  rw [Nat.add_mul, ← v1, ← v2] at l1 l2
  rw [Nat.add_mul, ← v2, ← v3] at u1 u2
  rw [numD_val h1 a0, numD_val h1 a1, numD_val h1 a2] at l1 l2
  rw [numD_val h1 a0, numD_val h1 a2, numD_val h1 a3] at u1 u2
  have hT : 0 < 10 ^ (u + 1100).toNat := Nat.pow_pos (by omega)
  generalize numD (of64D x) u = X at *
  generalize numD (ex64D (x - 1)) u = A at *
  generalize numD (ex64D x) u = M at *
  generalize numD (ex64D (x + 1)) u = H at *
  generalize 10 ^ (u + 1100).toNat = T at *
  have p1 : A + M ≤ X + X := by
    apply Nat.le_of_mul_le_mul_right (c := T) _ hT
    rw [Nat.add_mul, Nat.add_mul]; omega
  have p2 : X + X ≤ M + H := by
    apply Nat.le_of_mul_le_mul_right (c := T) _ hT
    rw [Nat.add_mul, Nat.add_mul]; omega
  have p3 : A + M = X + X → x % 2 = 0 := fun e => l2 (by have := congrArg (· * T) e; simp only [Nat.add_mul] at this; omega)
  have p4 : X + X = M + H → x % 2 = 0 := fun e => u2 (by have := congrArg (· * T) e; simp only [Nat.add_mul] at this; omega)
  refine ⟨_, _, rfl, rfl, ?_, ?_, fun ho => ⟨?_, ?_⟩⟩
  · unfold cmpN; split
    · omega
    · split <;> omega
  · unfold cmpN; split
    · omega
    · split <;> omega
  · unfold cmpN; rw [if_pos (by
      rcases Nat.lt_or_ge (A + M) (X + X) with q | q
      · exact q
      · exact absurd (p3 (by omega)) (by omega))]
  · unfold cmpN; rw [if_pos (by
      rcases Nat.lt_or_ge (X + X) (M + H) with q | q
      · exact q
      · exact absurd (p4 (by omega)) (by omega))]

set_option maxHeartbeats 1000000 in
theorem near_inf (a x : Nat) (w : World) (htab : Tab w) (ax : bits .andNot .u64 (a : Int) 9223372036854775808 = (x : Int)) (h : (x : Int) = 0 ∨ ((x : Int) == 0) = false ∧ (9218868437227405311 : Int) ≤ (x : Int)) :
    Calls Tryz.prog 3 #[.int .u64 (a : Int)] w fun e w' => e = .returned (.bool true) ∧ Below w.heap.size w w' := by
  have AW := hide (awake_any w htab)
  clear htab
  rcases h with h | ⟨h, h2⟩
  · go_enter Tryz.func3, Tryz.ntmps3
    go_wp2_with fail
    refine AW.out.mono ?_
    rintro e w1 ⟨rfl, hb1⟩
    have HB1 := hide hb1
    clear hb1 AW
    go_wp2
    go_ret
    exact ⟨rfl, HB1.out⟩
  · go_enter Tryz.func3, Tryz.ntmps3
    go_wp2_with fail
    refine AW.out.mono ?_
    rintro e w1 ⟨rfl, hb1⟩
    have HB1 := hide hb1
    clear hb1 AW
    go_wp2
    go_ret
    exact ⟨rfl, HB1.out⟩

set_option maxRecDepth 100000 in
set_option maxHeartbeats 4000000 in
theorem near_odd (a x : Nat) (w : World) (htab : Tab w) (ax : bits .andNot .u64 (a : Int) 9223372036854775808 = (x : Int)) (h0 : x ≠ 0) (hx : x + 1 < 9218868437227405312) (hodd : x % 2 = 1) :
    Calls Tryz.prog 3 #[.int .u64 (a : Int)] w fun e w' => e = .returned (.bool true) ∧ Below w.heap.size w w' := by
  have AW := hide (awake_any w htab)
  have HT := hide htab
  have f0 := formed_two (a := x) (by omega)
  have f1 := formed_two (a := x - 1) (by omega)
  have f2 := formed_two (a := x + 1) hx
  have C0 : ∀ W, Tab W → Calls Tryz.prog 9 #[.int .u64 (x : Int)] W fun e w' => e = .returned (decVal (of64D x)) ∧ Below W.heap.size W w' := fun W ht => by
    rw [show (x : Int) = ((x : Nat) : Int) by omega]
    exact of64_any x W (by omega) ht
  have M0 := fun W => formed_any (of64D x) 17 W (by omega) f0.1
  have P0 := Plain.of f0.1 (by omega)
  have lo0 := P0.lo
  have hi0 := P0.hi
  have C1 : ∀ W, Tab W → Calls Tryz.prog 10 #[.int .u64 ((x : Int) - 1)] W fun e w' => e = .returned (decVal (ex64D (x - 1))) ∧ Below W.heap.size W w' := fun W ht => by
    rw [show ((x : Int) - 1) = (((x - 1) : Nat) : Int) by omega]
    exact exact64_any (x - 1) W (by omega) ht
  have M1 := fun W => formed_any (ex64D (x - 1)) 767 W (by omega) f1.2
  have P1 := Plain.of f1.2 (by omega)
  have lo1 := P1.lo
  have hi1 := P1.hi
  have C2 : ∀ W, Tab W → Calls Tryz.prog 10 #[.int .u64 (x : Int)] W fun e w' => e = .returned (decVal (ex64D x)) ∧ Below W.heap.size W w' := fun W ht => by
    rw [show (x : Int) = ((x : Nat) : Int) by omega]
    exact exact64_any x W (by omega) ht
  have M2 := fun W => formed_any (ex64D x) 767 W (by omega) f0.2
  have P2 := Plain.of f0.2 (by omega)
  have lo2 := P2.lo
  have hi2 := P2.hi
  have C3 : ∀ W, Tab W → Calls Tryz.prog 10 #[.int .u64 ((x : Int) + 1)] W fun e w' => e = .returned (decVal (ex64D (x + 1))) ∧ Below W.heap.size W w' := fun W ht => by
    rw [show ((x : Int) + 1) = (((x + 1) : Nat) : Int) by omega]
    exact exact64_any (x + 1) W (by omega) ht
  have M3 := fun W => formed_any (ex64D (x + 1)) 767 W (by omega) f2.2
  have P3 := Plain.of f2.2 (by omega)
  have lo3 := P3.lo
  have hi3 := P3.hi
  obtain ⟨u, hu⟩ : ∃ u, u = min (of64D x).exp (min (ex64D (x - 1)).exp (min (ex64D x).exp (ex64D (x + 1)).exp)) := ⟨_, rfl⟩
  have u1 : -1100 ≤ u := by omega
  obtain ⟨za, zb, hza, hzb, za0, zb0, zo⟩ := near_cmp h0 hx u1 (by omega) (by omega) (by omega) (by omega)
  have MN := fun w ts t => min4 (of64D x).exp (ex64D (x - 1)).exp (ex64D x).exp (ex64D (x + 1)).exp u hu w ts t
  have N0 := fun W => number_any (of64D x) u W P0 u1 (by omega)
  have S0 := (numD_small P0 u1).2.2
  obtain ⟨X0, hX0⟩ : ∃ X, X = numD (of64D x) u := ⟨_, rfl⟩
  have N1 := fun W => number_any (ex64D (x - 1)) u W P1 u1 (by omega)
  have S1 := (numD_small P1 u1).2.2
  obtain ⟨X1, hX1⟩ : ∃ X, X = numD (ex64D (x - 1)) u := ⟨_, rfl⟩
  have N2 := fun W => number_any (ex64D x) u W P2 u1 (by omega)
  have S2 := (numD_small P2 u1).2.2
  obtain ⟨X2, hX2⟩ : ∃ X, X = numD (ex64D x) u := ⟨_, rfl⟩
  have N3 := fun W => number_any (ex64D (x + 1)) u W P3 u1 (by omega)
  have S3 := (numD_small P3 u1).2.2
  obtain ⟨X3, hX3⟩ : ∃ X, X = numD (ex64D (x + 1)) u := ⟨_, rfl⟩
  have SD : Sm (numD (of64D x) u + numD (of64D x) u) ∧ Sm (numD (ex64D (x - 1)) u + numD (ex64D x) u) ∧ Sm (numD (ex64D x) u + numD (ex64D (x + 1)) u) := ⟨numD_sum P0 P0 u1, numD_sum P1 P2 u1, numD_sum P2 P3 u1⟩
  obtain ⟨n0, hn0⟩ : ∃ n, n = (of64D x).neg := ⟨_, rfl⟩
  obtain ⟨t0, ht0⟩ : ∃ t : ByteArray, t = ⟨(of64D x).dig.toArray⟩ := ⟨_, rfl⟩
  obtain ⟨e0, he0⟩ : ∃ e, e = (of64D x).exp := ⟨_, rfl⟩
  have F0 : decVal (of64D x) = .agg #[.int .i64 0, .bool n0, .string t0, .int .i64 e0] := by unfold decVal; rw [f0.1.cls, hn0, ht0, he0]; rfl
  rw [F0] at C0 M0 N0
  rw [← hX0] at N0 S0
  have CH0 := hide C0
  have MH0 := hide M0
  have NH0 := hide N0
  obtain ⟨n1, hn1⟩ : ∃ n, n = (ex64D (x - 1)).neg := ⟨_, rfl⟩
  obtain ⟨t1, ht1⟩ : ∃ t : ByteArray, t = ⟨(ex64D (x - 1)).dig.toArray⟩ := ⟨_, rfl⟩
  obtain ⟨e1, he1⟩ : ∃ e, e = (ex64D (x - 1)).exp := ⟨_, rfl⟩
  have F1 : decVal (ex64D (x - 1)) = .agg #[.int .i64 0, .bool n1, .string t1, .int .i64 e1] := by unfold decVal; rw [f1.2.cls, hn1, ht1, he1]; rfl
  rw [F1] at C1 M1 N1
  rw [← hX1] at N1 S1
  have CH1 := hide C1
  have MH1 := hide M1
  have NH1 := hide N1
  obtain ⟨n2, hn2⟩ : ∃ n, n = (ex64D x).neg := ⟨_, rfl⟩
  obtain ⟨t2, ht2⟩ : ∃ t : ByteArray, t = ⟨(ex64D x).dig.toArray⟩ := ⟨_, rfl⟩
  obtain ⟨e2, he2⟩ : ∃ e, e = (ex64D x).exp := ⟨_, rfl⟩
  have F2 : decVal (ex64D x) = .agg #[.int .i64 0, .bool n2, .string t2, .int .i64 e2] := by unfold decVal; rw [f0.2.cls, hn2, ht2, he2]; rfl
  rw [F2] at C2 M2 N2
  rw [← hX2] at N2 S2
  have CH2 := hide C2
  have MH2 := hide M2
  have NH2 := hide N2
  obtain ⟨n3, hn3⟩ : ∃ n, n = (ex64D (x + 1)).neg := ⟨_, rfl⟩
  obtain ⟨t3, ht3⟩ : ∃ t : ByteArray, t = ⟨(ex64D (x + 1)).dig.toArray⟩ := ⟨_, rfl⟩
  obtain ⟨e3, he3⟩ : ∃ e, e = (ex64D (x + 1)).exp := ⟨_, rfl⟩
  have F3 : decVal (ex64D (x + 1)) = .agg #[.int .i64 0, .bool n3, .string t3, .int .i64 e3] := by unfold decVal; rw [f2.2.cls, hn3, ht3, he3]; rfl
  rw [F3] at C3 M3 N3
  rw [← hX3] at N3 S3
  have CH3 := hide C3
  have MH3 := hide M3
  have NH3 := hide N3
  rw [← hX0, ← hX1, ← hX2] at hza
  rw [← hX0, ← hX2, ← hX3] at hzb
  rw [← hX0, ← hX1, ← hX2, ← hX3] at SD
  rw [← he0, ← he1, ← he2, ← he3] at MN
  have SS : Hid ((Sm X0 ∧ Sm X1 ∧ Sm X2 ∧ Sm X3) ∧ Sm (X0 + X0) ∧ Sm (X1 + X2) ∧ Sm (X2 + X3)) := ⟨⟨S0, S1, S2, S3⟩, SD⟩
  have CZ : Hid (cmpN (X1 + X2) (X0 + X0) = za ∧ cmpN (X0 + X0) (X2 + X3) = zb) := ⟨hza, hzb⟩
  have hx0 : ((x : Int) == 0) = false := by
    have : ¬ (x : Int) = 0 := by omega
    simpa using this
  have hx' : decide ((9218868437227405311 : Int) ≤ (x : Int)) = false := decide_eq_false (by omega)
  have hpar : (x : Int) % 2 = 1 := by omega
  obtain ⟨rfl, rfl⟩ := zo hodd
  have hxb : x < 9223372036854775808 := by omega
  have hx1 : 1 ≤ x := by omega
  clear htab f0 f1 f2 h0 hx hodd zo hza hzb SD hu u1 za0 zb0 C0 M0 N0 P0 S0 F0 hn0 ht0 he0 hX0 lo0 hi0 C1 M1 N1 P1 S1 F1 hn1 ht1 he1 hX1 lo1 hi1 C2 M2 N2 P2 S2 F2 hn2 ht2 he2 hX2 lo2 hi2 C3 M3 N3 P3 S3 F3 hn3 ht3 he3 hX3 lo3 hi3
  go_enter Tryz.func3, Tryz.ntmps3
  go_wp2_with fail
  refine AW.out.mono ?_
  rintro e w1 ⟨rfl, hb1⟩
  have HB1 := hide hb1
  clear hb1 AW
  go_wp2_with fail
  refine (CH0.out _ (HT.out.below HB1.out)).mono ?_
  rintro e w2 ⟨rfl, hb2⟩
  have HB2 := hide (HB1.out.trans (hb2.mono HB1.out.size))
  clear hb2 HB1 CH0
  go_wp2_with fail
  refine (CH1.out _ (HT.out.below HB2.out)).mono ?_
  rintro e w3 ⟨rfl, hb3⟩
  have HB3 := hide (HB2.out.trans (hb3.mono HB2.out.size))
  clear hb3 HB2 CH1
  go_wp2_with fail
  refine (CH2.out _ (HT.out.below HB3.out)).mono ?_
  rintro e w4 ⟨rfl, hb4⟩
  have HB4 := hide (HB3.out.trans (hb4.mono HB3.out.size))
  clear hb4 HB3 CH2
  go_wp2_with fail
  refine (CH3.out _ (HT.out.below HB4.out)).mono ?_
  rintro e w5 ⟨rfl, hb5⟩
  have HB5 := hide (HB4.out.trans (hb5.mono HB4.out.size))
  clear hb5 HB4 CH3
  have K0 := (((Blk.new w5 #[.int .i64 0, .bool n0, .string t0, .int .i64 e0] 25).alloc (.cells #[.int .i64 0, .bool n1, .string t1, .int .i64 e1] 25)).alloc (.cells #[.int .i64 0, .bool n2, .string t2, .int .i64 e2] 25)).alloc (.cells #[.int .i64 0, .bool n3, .string t3, .int .i64 e3] 25)
  have K1 := ((Blk.newAt (w5.alloc (.cells #[.int .i64 0, .bool n0, .string t0, .int .i64 e0] 25)) (w5.heap.size + 1) (by simp) #[.int .i64 0, .bool n1, .string t1, .int .i64 e1] 25).alloc (.cells #[.int .i64 0, .bool n2, .string t2, .int .i64 e2] 25)).alloc (.cells #[.int .i64 0, .bool n3, .string t3, .int .i64 e3] 25)
  have K2 := (Blk.newAt ((w5.alloc (.cells #[.int .i64 0, .bool n0, .string t0, .int .i64 e0] 25)).alloc (.cells #[.int .i64 0, .bool n1, .string t1, .int .i64 e1] 25)) (w5.heap.size + 1 + 1) (by simp) #[.int .i64 0, .bool n2, .string t2, .int .i64 e2] 25).alloc (.cells #[.int .i64 0, .bool n3, .string t3, .int .i64 e3] 25)
  have K3 := Blk.newAt (((w5.alloc (.cells #[.int .i64 0, .bool n0, .string t0, .int .i64 e0] 25)).alloc (.cells #[.int .i64 0, .bool n1, .string t1, .int .i64 e1] 25)).alloc (.cells #[.int .i64 0, .bool n2, .string t2, .int .i64 e2] 25)) (w5.heap.size + 1 + 1 + 1) (by simp) #[.int .i64 0, .bool n3, .string t3, .int .i64 e3] 25
  obtain ⟨W, hW⟩ : ∃ W, W = ((((w5.alloc (.cells #[.int .i64 0, .bool n0, .string t0, .int .i64 e0] 25)).alloc (.cells #[.int .i64 0, .bool n1, .string t1, .int .i64 e1] 25)).alloc (.cells #[.int .i64 0, .bool n2, .string t2, .int .i64 e2] 25)).alloc (.cells #[.int .i64 0, .bool n3, .string t3, .int .i64 e3] 25)) := ⟨_, rfl⟩
  rw [← hW] at K0 K1 K2 K3
  have HBW : Hid (Below w.heap.size w W) := by
    rw [hW]
    exact HB5.out.trans (((((Below.refl _ _).alloc (Nat.le_refl _) _).alloc (by simp) _).alloc (by simp; omega) _).alloc (by simp; omega) _ |>.mono HB5.out.size)
  obtain ⟨H0, eH0⟩ : ∃ H, H = w5.heap.size := ⟨_, rfl⟩
  rw [← eH0] at K0
  obtain ⟨H1, eH1⟩ : ∃ H, H = w5.heap.size + 1 := ⟨_, rfl⟩
  rw [← eH1] at K1
  obtain ⟨H2, eH2⟩ : ∃ H, H = w5.heap.size + 1 + 1 := ⟨_, rfl⟩
  rw [← eH2] at K2
  obtain ⟨H3, eH3⟩ : ∃ H, H = w5.heap.size + 1 + 1 + 1 := ⟨_, rfl⟩
  rw [← eH3] at K3
  have CELLS : Hid (∀ w', Below W.heap.size W w' → w'.cell? ⟨H0, 0, none⟩ = some (.int .i64 0) ∧ w'.cell? ⟨H0, 1, none⟩ = some (.bool n0) ∧ w'.cell? ⟨H0, 2, none⟩ = some (.string t0) ∧ w'.cell? ⟨H0, 3, none⟩ = some (.int .i64 e0) ∧ w'.cell? ⟨H1, 0, none⟩ = some (.int .i64 0) ∧ w'.cell? ⟨H1, 1, none⟩ = some (.bool n1) ∧ w'.cell? ⟨H1, 2, none⟩ = some (.string t1) ∧ w'.cell? ⟨H1, 3, none⟩ = some (.int .i64 e1) ∧ w'.cell? ⟨H2, 0, none⟩ = some (.int .i64 0) ∧ w'.cell? ⟨H2, 1, none⟩ = some (.bool n2) ∧ w'.cell? ⟨H2, 2, none⟩ = some (.string t2) ∧ w'.cell? ⟨H2, 3, none⟩ = some (.int .i64 e2) ∧ w'.cell? ⟨H3, 0, none⟩ = some (.int .i64 0) ∧ w'.cell? ⟨H3, 1, none⟩ = some (.bool n3) ∧ w'.cell? ⟨H3, 2, none⟩ = some (.string t3) ∧ w'.cell? ⟨H3, 3, none⟩ = some (.int .i64 e3)) := fun w' hb => ⟨(K0.below hb K0.lt).cell 0, (K0.below hb K0.lt).cell 1, (K0.below hb K0.lt).cell 2, (K0.below hb K0.lt).cell 3, (K1.below hb K1.lt).cell 0, (K1.below hb K1.lt).cell 1, (K1.below hb K1.lt).cell 2, (K1.below hb K1.lt).cell 3, (K2.below hb K2.lt).cell 0, (K2.below hb K2.lt).cell 1, (K2.below hb K2.lt).cell 2, (K2.below hb K2.lt).cell 3, (K3.below hb K3.lt).cell 0, (K3.below hb K3.lt).cell 1, (K3.below hb K3.lt).cell 2, (K3.below hb K3.lt).cell 3⟩
  have HWE := hide hW
  have EH0 := hide eH0
  have EH1 := hide eH1
  have EH2 := hide eH2
  have EH3 := hide eH3
  clear hW K0 eH0 K1 eH1 K2 eH2 K3 eH3
  go_wp2_with fail
  simp only [← HWE.out]
  simp only [← EH3.out]
  simp only [← EH2.out]
  simp only [← EH1.out]
  simp only [← EH0.out]
  refine (MH0.out _).mono ?_
  rintro e v1 ⟨rfl, hb⟩
  have T1 := hide hb
  obtain ⟨p00, p01, p02, p03, p10, p11, p12, p13, p20, p21, p22, p23, p30, p31, p32, p33⟩ := CELLS.out v1 T1.out
  clear hb MH0
  go_wp2_with fail
  refine (MH1.out _).mono ?_
  rintro e v2 ⟨rfl, hb⟩
  have T2 := hide (T1.out.trans (hb.mono T1.out.size))
  clear p00 p01 p02 p03 p10 p11 p12 p13 p20 p21 p22 p23 p30 p31 p32 p33
  obtain ⟨p00, p01, p02, p03, p10, p11, p12, p13, p20, p21, p22, p23, p30, p31, p32, p33⟩ := CELLS.out v2 T2.out
  clear hb MH1 T1
  go_wp2_with fail
  refine (MH2.out _).mono ?_
  rintro e v3 ⟨rfl, hb⟩
  have T3 := hide (T2.out.trans (hb.mono T2.out.size))
  clear p00 p01 p02 p03 p10 p11 p12 p13 p20 p21 p22 p23 p30 p31 p32 p33
  obtain ⟨p00, p01, p02, p03, p10, p11, p12, p13, p20, p21, p22, p23, p30, p31, p32, p33⟩ := CELLS.out v3 T3.out
  clear hb MH2 T2
  go_wp2_with fail
  refine (MH3.out _).mono ?_
  rintro e v4 ⟨rfl, hb⟩
  have T4 := hide (T3.out.trans (hb.mono T3.out.size))
  clear p00 p01 p02 p03 p10 p11 p12 p13 p20 p21 p22 p23 p30 p31 p32 p33
  obtain ⟨p00, p01, p02, p03, p10, p11, p12, p13, p20, p21, p22, p23, p30, p31, p32, p33⟩ := CELLS.out v4 T4.out
  clear hb MH3 T3
  go_wp2_with fail
  refine (NH0.out _).mono ?_
  rintro e v5 ⟨oa, ca, la, rfl, na, hb⟩
  have T5 := hide (T4.out.trans (hb.mono T4.out.size))
  clear p00 p01 p02 p03 p10 p11 p12 p13 p20 p21 p22 p23 p30 p31 p32 p33
  obtain ⟨p00, p01, p02, p03, p10, p11, p12, p13, p20, p21, p22, p23, p30, p31, p32, p33⟩ := CELLS.out v5 T5.out
  have AD := hide (nr_add _ _ X0 X0 v5 na na SS.out.1.1 SS.out.1.1)
  clear hb NH0 T4 na
  go_wp2_with fail
  refine AD.out.mono ?_
  rintro e v6 ⟨ob, cb, lb, rfl, nb, hb⟩
  have T6 := hide (T5.out.trans (hb.mono T5.out.size))
  have NT := hide nb
  clear p00 p01 p02 p03 p10 p11 p12 p13 p20 p21 p22 p23 p30 p31 p32 p33
  obtain ⟨p00, p01, p02, p03, p10, p11, p12, p13, p20, p21, p22, p23, p30, p31, p32, p33⟩ := CELLS.out v6 T6.out
  clear hb AD T5 nb MN
  go_wp2_with fail
  have b0 : Hid (Below W.heap.size W v6.drew) := T6.out.trans ((Below.refl _ _).drew.mono T6.out.size)
  have NT0 : Hid (Nr v6.drew (.slice ob lb cb) (X0 + X0)) := NT.out.below (Below.refl _ _).drew
  have mk0 : True := trivial
  go_region_held3 (fun w' => w'.cell? ⟨H0, 0, none⟩ = some (.int .i64 0) ∧ w'.cell? ⟨H0, 1, none⟩ = some (.bool n0) ∧ w'.cell? ⟨H0, 2, none⟩ = some (.string t0) ∧ w'.cell? ⟨H0, 3, none⟩ = some (.int .i64 e0) ∧ w'.cell? ⟨H1, 0, none⟩ = some (.int .i64 0) ∧ w'.cell? ⟨H1, 1, none⟩ = some (.bool n1) ∧ w'.cell? ⟨H1, 2, none⟩ = some (.string t1) ∧ w'.cell? ⟨H1, 3, none⟩ = some (.int .i64 e1) ∧ w'.cell? ⟨H2, 0, none⟩ = some (.int .i64 0) ∧ w'.cell? ⟨H2, 1, none⟩ = some (.bool n2) ∧ w'.cell? ⟨H2, 2, none⟩ = some (.string t2) ∧ w'.cell? ⟨H2, 3, none⟩ = some (.int .i64 e2) ∧ w'.cell? ⟨H3, 0, none⟩ = some (.int .i64 0) ∧ w'.cell? ⟨H3, 1, none⟩ = some (.bool n3) ∧ w'.cell? ⟨H3, 2, none⟩ = some (.string t3) ∧ w'.cell? ⟨H3, 3, none⟩ = some (.int .i64 e3)) (go_keep) (first
    | (clear mk0; go_at_call 12; refine (NH1.out _).mono ?_; rintro e r1 ⟨o1, c1, l1, rfl, m1, hb⟩; have T7 := hide (b0.out.trans (hb.mono b0.out.size)); have NT1 := hide (NT0.out.below hb); have Q1 := hide m1; obtain ⟨q00, q01, q02, q03, q10, q11, q12, q13, q20, q21, q22, q23, q30, q31, q32, q33⟩ := CELLS.out r1 T7.out; clear hb m1; have mk1 : True := trivial)
    | (clear mk1; go_at_call 12; refine (NH2.out _).mono ?_; rintro e r2 ⟨o2, c2, l2, rfl, m2, hb⟩; have T8 := hide (T7.out.trans (hb.mono T7.out.size)); have NT2 := hide (NT1.out.below hb); have Q12 := hide (Q1.out.below hb); have Q2 := hide m2; obtain ⟨s00, s01, s02, s03, s10, s11, s12, s13, s20, s21, s22, s23, s30, s31, s32, s33⟩ := CELLS.out r2 T8.out; clear hb m2; have mk2 : True := trivial)
    | (clear mk2; go_at_call 12; refine (NH3.out _).mono ?_; rintro e r3 ⟨o3, c3, l3, rfl, m3, hb⟩; have T9 := hide (T8.out.trans (hb.mono T8.out.size)); have NT3 := hide (NT2.out.below hb); have Q13 := hide (Q12.out.below hb); have Q23 := hide (Q2.out.below hb); have Q33 := hide m3; obtain ⟨y00, y01, y02, y03, y10, y11, y12, y13, y20, y21, y22, y23, y30, y31, y32, y33⟩ := CELLS.out r3 T9.out; clear hb m3; have mk3 : True := trivial))
  all_goals (
    have A1 := hide (nr_add _ _ X1 X2 r3 Q13.out Q23.out SS.out.1.2.1 SS.out.1.2.2.1)
    clear p00 p01 p02 p03 p10 p11 p12 p13 p20 p21 p22 p23 p30 p31 p32 p33 q00 q01 q02 q03 q10 q11 q12 q13 q20 q21 q22 q23 q30 q31 q32 q33 s00 s01 s02 s03 s10 s11 s12 s13 s20 s21 s22 s23 s30 s31 s32 s33 y00 y01 y02 y03 y10 y11 y12 y13 y20 y21 y22 y23 y30 y31 y32 y33
    go_wp2_with fail
    refine A1.out.mono ?_
    rintro e g1 ⟨oc, cc, lc, rfl, nc, hb⟩
    have U1 := hide hb
    have CM1 := hide (nr_cmp _ _ (X1 + X2) (X0 + X0) (-1) g1 nc (NT3.out.below hb) SS.out.2.2.1 SS.out.2.1 CZ.out.1)
    clear hb nc A1
    go_wp2_with fail
    refine CM1.out.mono ?_
    rintro e g2 ⟨rfl, hb⟩
    have U2 := hide (U1.out.trans (hb.mono U1.out.size))
    have A2 := hide (nr_add _ _ X2 X3 g2 (Q23.out.below U2.out) (Q33.out.below U2.out) SS.out.1.2.2.1 SS.out.1.2.2.2)
    clear hb CM1 U1
    go_wp2_with fail
    refine A2.out.mono ?_
    rintro e g3 ⟨od, cd, ld, rfl, nd, hb⟩
    have U3 := hide (U2.out.trans (hb.mono U2.out.size))
    have CM2 := hide (nr_cmp _ _ (X0 + X0) (X2 + X3) (-1) g3 (NT3.out.below U3.out) nd SS.out.2.1 SS.out.2.2.2 CZ.out.2)
    clear hb nd A2 U2
    go_wp2_with fail
    refine CM2.out.mono ?_
    rintro e g4 ⟨rfl, hb⟩
    have FIN := hide (HBW.out.trans ((T9.out.trans ((U3.out.trans (hb.mono U3.out.size)).mono T9.out.size)).mono HBW.out.size))
    clear hb CM2 U3
    go_wp2
    go_ret
    exact ⟨rfl, FIN.out⟩)

set_option maxRecDepth 100000 in
set_option maxHeartbeats 4000000 in
theorem near_even (a x : Nat) (w : World) (htab : Tab w) (ax : bits .andNot .u64 (a : Int) 9223372036854775808 = (x : Int)) (h0 : x ≠ 0) (hx : x + 1 < 9218868437227405312) (hodd : x % 2 = 0) :
    Calls Tryz.prog 3 #[.int .u64 (a : Int)] w fun e w' => e = .returned (.bool true) ∧ Below w.heap.size w w' := by
  have AW := hide (awake_any w htab)
  have HT := hide htab
  have f0 := formed_two (a := x) (by omega)
  have f1 := formed_two (a := x - 1) (by omega)
  have f2 := formed_two (a := x + 1) hx
  have C0 : ∀ W, Tab W → Calls Tryz.prog 9 #[.int .u64 (x : Int)] W fun e w' => e = .returned (decVal (of64D x)) ∧ Below W.heap.size W w' := fun W ht => by
    rw [show (x : Int) = ((x : Nat) : Int) by omega]
    exact of64_any x W (by omega) ht
  have M0 := fun W => formed_any (of64D x) 17 W (by omega) f0.1
  have P0 := Plain.of f0.1 (by omega)
  have lo0 := P0.lo
  have hi0 := P0.hi
  have C1 : ∀ W, Tab W → Calls Tryz.prog 10 #[.int .u64 ((x : Int) - 1)] W fun e w' => e = .returned (decVal (ex64D (x - 1))) ∧ Below W.heap.size W w' := fun W ht => by
    rw [show ((x : Int) - 1) = (((x - 1) : Nat) : Int) by omega]
    exact exact64_any (x - 1) W (by omega) ht
  have M1 := fun W => formed_any (ex64D (x - 1)) 767 W (by omega) f1.2
  have P1 := Plain.of f1.2 (by omega)
  have lo1 := P1.lo
  have hi1 := P1.hi
  have C2 : ∀ W, Tab W → Calls Tryz.prog 10 #[.int .u64 (x : Int)] W fun e w' => e = .returned (decVal (ex64D x)) ∧ Below W.heap.size W w' := fun W ht => by
    rw [show (x : Int) = ((x : Nat) : Int) by omega]
    exact exact64_any x W (by omega) ht
  have M2 := fun W => formed_any (ex64D x) 767 W (by omega) f0.2
  have P2 := Plain.of f0.2 (by omega)
  have lo2 := P2.lo
  have hi2 := P2.hi
  have C3 : ∀ W, Tab W → Calls Tryz.prog 10 #[.int .u64 ((x : Int) + 1)] W fun e w' => e = .returned (decVal (ex64D (x + 1))) ∧ Below W.heap.size W w' := fun W ht => by
    rw [show ((x : Int) + 1) = (((x + 1) : Nat) : Int) by omega]
    exact exact64_any (x + 1) W (by omega) ht
  have M3 := fun W => formed_any (ex64D (x + 1)) 767 W (by omega) f2.2
  have P3 := Plain.of f2.2 (by omega)
  have lo3 := P3.lo
  have hi3 := P3.hi
  obtain ⟨u, hu⟩ : ∃ u, u = min (of64D x).exp (min (ex64D (x - 1)).exp (min (ex64D x).exp (ex64D (x + 1)).exp)) := ⟨_, rfl⟩
  have u1 : -1100 ≤ u := by omega
  obtain ⟨za, zb, hza, hzb, za0, zb0, zo⟩ := near_cmp h0 hx u1 (by omega) (by omega) (by omega) (by omega)
  have MN := fun w ts t => min4 (of64D x).exp (ex64D (x - 1)).exp (ex64D x).exp (ex64D (x + 1)).exp u hu w ts t
  have N0 := fun W => number_any (of64D x) u W P0 u1 (by omega)
  have S0 := (numD_small P0 u1).2.2
  obtain ⟨X0, hX0⟩ : ∃ X, X = numD (of64D x) u := ⟨_, rfl⟩
  have N1 := fun W => number_any (ex64D (x - 1)) u W P1 u1 (by omega)
  have S1 := (numD_small P1 u1).2.2
  obtain ⟨X1, hX1⟩ : ∃ X, X = numD (ex64D (x - 1)) u := ⟨_, rfl⟩
  have N2 := fun W => number_any (ex64D x) u W P2 u1 (by omega)
  have S2 := (numD_small P2 u1).2.2
  obtain ⟨X2, hX2⟩ : ∃ X, X = numD (ex64D x) u := ⟨_, rfl⟩
  have N3 := fun W => number_any (ex64D (x + 1)) u W P3 u1 (by omega)
  have S3 := (numD_small P3 u1).2.2
  obtain ⟨X3, hX3⟩ : ∃ X, X = numD (ex64D (x + 1)) u := ⟨_, rfl⟩
  have SD : Sm (numD (of64D x) u + numD (of64D x) u) ∧ Sm (numD (ex64D (x - 1)) u + numD (ex64D x) u) ∧ Sm (numD (ex64D x) u + numD (ex64D (x + 1)) u) := ⟨numD_sum P0 P0 u1, numD_sum P1 P2 u1, numD_sum P2 P3 u1⟩
  obtain ⟨n0, hn0⟩ : ∃ n, n = (of64D x).neg := ⟨_, rfl⟩
  obtain ⟨t0, ht0⟩ : ∃ t : ByteArray, t = ⟨(of64D x).dig.toArray⟩ := ⟨_, rfl⟩
  obtain ⟨e0, he0⟩ : ∃ e, e = (of64D x).exp := ⟨_, rfl⟩
  have F0 : decVal (of64D x) = .agg #[.int .i64 0, .bool n0, .string t0, .int .i64 e0] := by unfold decVal; rw [f0.1.cls, hn0, ht0, he0]; rfl
  rw [F0] at C0 M0 N0
  rw [← hX0] at N0 S0
  have CH0 := hide C0
  have MH0 := hide M0
  have NH0 := hide N0
  obtain ⟨n1, hn1⟩ : ∃ n, n = (ex64D (x - 1)).neg := ⟨_, rfl⟩
  obtain ⟨t1, ht1⟩ : ∃ t : ByteArray, t = ⟨(ex64D (x - 1)).dig.toArray⟩ := ⟨_, rfl⟩
  obtain ⟨e1, he1⟩ : ∃ e, e = (ex64D (x - 1)).exp := ⟨_, rfl⟩
  have F1 : decVal (ex64D (x - 1)) = .agg #[.int .i64 0, .bool n1, .string t1, .int .i64 e1] := by unfold decVal; rw [f1.2.cls, hn1, ht1, he1]; rfl
  rw [F1] at C1 M1 N1
  rw [← hX1] at N1 S1
  have CH1 := hide C1
  have MH1 := hide M1
  have NH1 := hide N1
  obtain ⟨n2, hn2⟩ : ∃ n, n = (ex64D x).neg := ⟨_, rfl⟩
  obtain ⟨t2, ht2⟩ : ∃ t : ByteArray, t = ⟨(ex64D x).dig.toArray⟩ := ⟨_, rfl⟩
  obtain ⟨e2, he2⟩ : ∃ e, e = (ex64D x).exp := ⟨_, rfl⟩
  have F2 : decVal (ex64D x) = .agg #[.int .i64 0, .bool n2, .string t2, .int .i64 e2] := by unfold decVal; rw [f0.2.cls, hn2, ht2, he2]; rfl
  rw [F2] at C2 M2 N2
  rw [← hX2] at N2 S2
  have CH2 := hide C2
  have MH2 := hide M2
  have NH2 := hide N2
  obtain ⟨n3, hn3⟩ : ∃ n, n = (ex64D (x + 1)).neg := ⟨_, rfl⟩
  obtain ⟨t3, ht3⟩ : ∃ t : ByteArray, t = ⟨(ex64D (x + 1)).dig.toArray⟩ := ⟨_, rfl⟩
  obtain ⟨e3, he3⟩ : ∃ e, e = (ex64D (x + 1)).exp := ⟨_, rfl⟩
  have F3 : decVal (ex64D (x + 1)) = .agg #[.int .i64 0, .bool n3, .string t3, .int .i64 e3] := by unfold decVal; rw [f2.2.cls, hn3, ht3, he3]; rfl
  rw [F3] at C3 M3 N3
  rw [← hX3] at N3 S3
  have CH3 := hide C3
  have MH3 := hide M3
  have NH3 := hide N3
  rw [← hX0, ← hX1, ← hX2] at hza
  rw [← hX0, ← hX2, ← hX3] at hzb
  rw [← hX0, ← hX1, ← hX2, ← hX3] at SD
  rw [← he0, ← he1, ← he2, ← he3] at MN
  have SS : Hid ((Sm X0 ∧ Sm X1 ∧ Sm X2 ∧ Sm X3) ∧ Sm (X0 + X0) ∧ Sm (X1 + X2) ∧ Sm (X2 + X3)) := ⟨⟨S0, S1, S2, S3⟩, SD⟩
  have CZ : Hid (cmpN (X1 + X2) (X0 + X0) = za ∧ cmpN (X0 + X0) (X2 + X3) = zb) := ⟨hza, hzb⟩
  have hx0 : ((x : Int) == 0) = false := by
    have : ¬ (x : Int) = 0 := by omega
    simpa using this
  have hx' : decide ((9218868437227405311 : Int) ≤ (x : Int)) = false := decide_eq_false (by omega)
  have hpar : ¬ (x : Int) % 2 = 1 := by omega
  have hxb : x < 9223372036854775808 := by omega
  have hx1 : 1 ≤ x := by omega
  clear htab f0 f1 f2 h0 hx hodd zo hza hzb SD hu u1 C0 M0 N0 P0 S0 F0 hn0 ht0 he0 hX0 lo0 hi0 C1 M1 N1 P1 S1 F1 hn1 ht1 he1 hX1 lo1 hi1 C2 M2 N2 P2 S2 F2 hn2 ht2 he2 hX2 lo2 hi2 C3 M3 N3 P3 S3 F3 hn3 ht3 he3 hX3 lo3 hi3
  go_enter Tryz.func3, Tryz.ntmps3
  go_wp2_with fail
  refine AW.out.mono ?_
  rintro e w1 ⟨rfl, hb1⟩
  have HB1 := hide hb1
  clear hb1 AW
  go_wp2_with fail
  refine (CH0.out _ (HT.out.below HB1.out)).mono ?_
  rintro e w2 ⟨rfl, hb2⟩
  have HB2 := hide (HB1.out.trans (hb2.mono HB1.out.size))
  clear hb2 HB1 CH0
  go_wp2_with fail
  refine (CH1.out _ (HT.out.below HB2.out)).mono ?_
  rintro e w3 ⟨rfl, hb3⟩
  have HB3 := hide (HB2.out.trans (hb3.mono HB2.out.size))
  clear hb3 HB2 CH1
  go_wp2_with fail
  refine (CH2.out _ (HT.out.below HB3.out)).mono ?_
  rintro e w4 ⟨rfl, hb4⟩
  have HB4 := hide (HB3.out.trans (hb4.mono HB3.out.size))
  clear hb4 HB3 CH2
  go_wp2_with fail
  refine (CH3.out _ (HT.out.below HB4.out)).mono ?_
  rintro e w5 ⟨rfl, hb5⟩
  have HB5 := hide (HB4.out.trans (hb5.mono HB4.out.size))
  clear hb5 HB4 CH3
  have K0 := (((Blk.new w5 #[.int .i64 0, .bool n0, .string t0, .int .i64 e0] 25).alloc (.cells #[.int .i64 0, .bool n1, .string t1, .int .i64 e1] 25)).alloc (.cells #[.int .i64 0, .bool n2, .string t2, .int .i64 e2] 25)).alloc (.cells #[.int .i64 0, .bool n3, .string t3, .int .i64 e3] 25)
  have K1 := ((Blk.newAt (w5.alloc (.cells #[.int .i64 0, .bool n0, .string t0, .int .i64 e0] 25)) (w5.heap.size + 1) (by simp) #[.int .i64 0, .bool n1, .string t1, .int .i64 e1] 25).alloc (.cells #[.int .i64 0, .bool n2, .string t2, .int .i64 e2] 25)).alloc (.cells #[.int .i64 0, .bool n3, .string t3, .int .i64 e3] 25)
  have K2 := (Blk.newAt ((w5.alloc (.cells #[.int .i64 0, .bool n0, .string t0, .int .i64 e0] 25)).alloc (.cells #[.int .i64 0, .bool n1, .string t1, .int .i64 e1] 25)) (w5.heap.size + 1 + 1) (by simp) #[.int .i64 0, .bool n2, .string t2, .int .i64 e2] 25).alloc (.cells #[.int .i64 0, .bool n3, .string t3, .int .i64 e3] 25)
  have K3 := Blk.newAt (((w5.alloc (.cells #[.int .i64 0, .bool n0, .string t0, .int .i64 e0] 25)).alloc (.cells #[.int .i64 0, .bool n1, .string t1, .int .i64 e1] 25)).alloc (.cells #[.int .i64 0, .bool n2, .string t2, .int .i64 e2] 25)) (w5.heap.size + 1 + 1 + 1) (by simp) #[.int .i64 0, .bool n3, .string t3, .int .i64 e3] 25
  obtain ⟨W, hW⟩ : ∃ W, W = ((((w5.alloc (.cells #[.int .i64 0, .bool n0, .string t0, .int .i64 e0] 25)).alloc (.cells #[.int .i64 0, .bool n1, .string t1, .int .i64 e1] 25)).alloc (.cells #[.int .i64 0, .bool n2, .string t2, .int .i64 e2] 25)).alloc (.cells #[.int .i64 0, .bool n3, .string t3, .int .i64 e3] 25)) := ⟨_, rfl⟩
  rw [← hW] at K0 K1 K2 K3
  have HBW : Hid (Below w.heap.size w W) := by
    rw [hW]
    exact HB5.out.trans (((((Below.refl _ _).alloc (Nat.le_refl _) _).alloc (by simp) _).alloc (by simp; omega) _).alloc (by simp; omega) _ |>.mono HB5.out.size)
  obtain ⟨H0, eH0⟩ : ∃ H, H = w5.heap.size := ⟨_, rfl⟩
  rw [← eH0] at K0
  obtain ⟨H1, eH1⟩ : ∃ H, H = w5.heap.size + 1 := ⟨_, rfl⟩
  rw [← eH1] at K1
  obtain ⟨H2, eH2⟩ : ∃ H, H = w5.heap.size + 1 + 1 := ⟨_, rfl⟩
  rw [← eH2] at K2
  obtain ⟨H3, eH3⟩ : ∃ H, H = w5.heap.size + 1 + 1 + 1 := ⟨_, rfl⟩
  rw [← eH3] at K3
  have CELLS : Hid (∀ w', Below W.heap.size W w' → w'.cell? ⟨H0, 0, none⟩ = some (.int .i64 0) ∧ w'.cell? ⟨H0, 1, none⟩ = some (.bool n0) ∧ w'.cell? ⟨H0, 2, none⟩ = some (.string t0) ∧ w'.cell? ⟨H0, 3, none⟩ = some (.int .i64 e0) ∧ w'.cell? ⟨H1, 0, none⟩ = some (.int .i64 0) ∧ w'.cell? ⟨H1, 1, none⟩ = some (.bool n1) ∧ w'.cell? ⟨H1, 2, none⟩ = some (.string t1) ∧ w'.cell? ⟨H1, 3, none⟩ = some (.int .i64 e1) ∧ w'.cell? ⟨H2, 0, none⟩ = some (.int .i64 0) ∧ w'.cell? ⟨H2, 1, none⟩ = some (.bool n2) ∧ w'.cell? ⟨H2, 2, none⟩ = some (.string t2) ∧ w'.cell? ⟨H2, 3, none⟩ = some (.int .i64 e2) ∧ w'.cell? ⟨H3, 0, none⟩ = some (.int .i64 0) ∧ w'.cell? ⟨H3, 1, none⟩ = some (.bool n3) ∧ w'.cell? ⟨H3, 2, none⟩ = some (.string t3) ∧ w'.cell? ⟨H3, 3, none⟩ = some (.int .i64 e3)) := fun w' hb => ⟨(K0.below hb K0.lt).cell 0, (K0.below hb K0.lt).cell 1, (K0.below hb K0.lt).cell 2, (K0.below hb K0.lt).cell 3, (K1.below hb K1.lt).cell 0, (K1.below hb K1.lt).cell 1, (K1.below hb K1.lt).cell 2, (K1.below hb K1.lt).cell 3, (K2.below hb K2.lt).cell 0, (K2.below hb K2.lt).cell 1, (K2.below hb K2.lt).cell 2, (K2.below hb K2.lt).cell 3, (K3.below hb K3.lt).cell 0, (K3.below hb K3.lt).cell 1, (K3.below hb K3.lt).cell 2, (K3.below hb K3.lt).cell 3⟩
  have HWE := hide hW
  have EH0 := hide eH0
  have EH1 := hide eH1
  have EH2 := hide eH2
  have EH3 := hide eH3
  clear hW K0 eH0 K1 eH1 K2 eH2 K3 eH3
  go_wp2_with fail
  simp only [← HWE.out]
  simp only [← EH3.out]
  simp only [← EH2.out]
  simp only [← EH1.out]
  simp only [← EH0.out]
  refine (MH0.out _).mono ?_
  rintro e v1 ⟨rfl, hb⟩
  have T1 := hide hb
  obtain ⟨p00, p01, p02, p03, p10, p11, p12, p13, p20, p21, p22, p23, p30, p31, p32, p33⟩ := CELLS.out v1 T1.out
  clear hb MH0
  go_wp2_with fail
  refine (MH1.out _).mono ?_
  rintro e v2 ⟨rfl, hb⟩
  have T2 := hide (T1.out.trans (hb.mono T1.out.size))
  clear p00 p01 p02 p03 p10 p11 p12 p13 p20 p21 p22 p23 p30 p31 p32 p33
  obtain ⟨p00, p01, p02, p03, p10, p11, p12, p13, p20, p21, p22, p23, p30, p31, p32, p33⟩ := CELLS.out v2 T2.out
  clear hb MH1 T1
  go_wp2_with fail
  refine (MH2.out _).mono ?_
  rintro e v3 ⟨rfl, hb⟩
  have T3 := hide (T2.out.trans (hb.mono T2.out.size))
  clear p00 p01 p02 p03 p10 p11 p12 p13 p20 p21 p22 p23 p30 p31 p32 p33
  obtain ⟨p00, p01, p02, p03, p10, p11, p12, p13, p20, p21, p22, p23, p30, p31, p32, p33⟩ := CELLS.out v3 T3.out
  clear hb MH2 T2
  go_wp2_with fail
  refine (MH3.out _).mono ?_
  rintro e v4 ⟨rfl, hb⟩
  have T4 := hide (T3.out.trans (hb.mono T3.out.size))
  clear p00 p01 p02 p03 p10 p11 p12 p13 p20 p21 p22 p23 p30 p31 p32 p33
  obtain ⟨p00, p01, p02, p03, p10, p11, p12, p13, p20, p21, p22, p23, p30, p31, p32, p33⟩ := CELLS.out v4 T4.out
  clear hb MH3 T3
  go_wp2_with fail
  refine (NH0.out _).mono ?_
  rintro e v5 ⟨oa, ca, la, rfl, na, hb⟩
  have T5 := hide (T4.out.trans (hb.mono T4.out.size))
  clear p00 p01 p02 p03 p10 p11 p12 p13 p20 p21 p22 p23 p30 p31 p32 p33
  obtain ⟨p00, p01, p02, p03, p10, p11, p12, p13, p20, p21, p22, p23, p30, p31, p32, p33⟩ := CELLS.out v5 T5.out
  have AD := hide (nr_add _ _ X0 X0 v5 na na SS.out.1.1 SS.out.1.1)
  clear hb NH0 T4 na
  go_wp2_with fail
  refine AD.out.mono ?_
  rintro e v6 ⟨ob, cb, lb, rfl, nb, hb⟩
  have T6 := hide (T5.out.trans (hb.mono T5.out.size))
  have NT := hide nb
  clear p00 p01 p02 p03 p10 p11 p12 p13 p20 p21 p22 p23 p30 p31 p32 p33
  obtain ⟨p00, p01, p02, p03, p10, p11, p12, p13, p20, p21, p22, p23, p30, p31, p32, p33⟩ := CELLS.out v6 T6.out
  clear hb AD T5 nb MN
  go_wp2_with fail
  have b0 : Hid (Below W.heap.size W v6.drew) := T6.out.trans ((Below.refl _ _).drew.mono T6.out.size)
  have NT0 : Hid (Nr v6.drew (.slice ob lb cb) (X0 + X0)) := NT.out.below (Below.refl _ _).drew
  have mk0 : True := trivial
  go_region_held3 (fun w' => w'.cell? ⟨H0, 0, none⟩ = some (.int .i64 0) ∧ w'.cell? ⟨H0, 1, none⟩ = some (.bool n0) ∧ w'.cell? ⟨H0, 2, none⟩ = some (.string t0) ∧ w'.cell? ⟨H0, 3, none⟩ = some (.int .i64 e0) ∧ w'.cell? ⟨H1, 0, none⟩ = some (.int .i64 0) ∧ w'.cell? ⟨H1, 1, none⟩ = some (.bool n1) ∧ w'.cell? ⟨H1, 2, none⟩ = some (.string t1) ∧ w'.cell? ⟨H1, 3, none⟩ = some (.int .i64 e1) ∧ w'.cell? ⟨H2, 0, none⟩ = some (.int .i64 0) ∧ w'.cell? ⟨H2, 1, none⟩ = some (.bool n2) ∧ w'.cell? ⟨H2, 2, none⟩ = some (.string t2) ∧ w'.cell? ⟨H2, 3, none⟩ = some (.int .i64 e2) ∧ w'.cell? ⟨H3, 0, none⟩ = some (.int .i64 0) ∧ w'.cell? ⟨H3, 1, none⟩ = some (.bool n3) ∧ w'.cell? ⟨H3, 2, none⟩ = some (.string t3) ∧ w'.cell? ⟨H3, 3, none⟩ = some (.int .i64 e3)) (go_keep) (first
    | (clear mk0; go_at_call 12; refine (NH1.out _).mono ?_; rintro e r1 ⟨o1, c1, l1, rfl, m1, hb⟩; have T7 := hide (b0.out.trans (hb.mono b0.out.size)); have NT1 := hide (NT0.out.below hb); have Q1 := hide m1; obtain ⟨q00, q01, q02, q03, q10, q11, q12, q13, q20, q21, q22, q23, q30, q31, q32, q33⟩ := CELLS.out r1 T7.out; clear hb m1; have mk1 : True := trivial)
    | (clear mk1; go_at_call 12; refine (NH2.out _).mono ?_; rintro e r2 ⟨o2, c2, l2, rfl, m2, hb⟩; have T8 := hide (T7.out.trans (hb.mono T7.out.size)); have NT2 := hide (NT1.out.below hb); have Q12 := hide (Q1.out.below hb); have Q2 := hide m2; obtain ⟨s00, s01, s02, s03, s10, s11, s12, s13, s20, s21, s22, s23, s30, s31, s32, s33⟩ := CELLS.out r2 T8.out; clear hb m2; have mk2 : True := trivial)
    | (clear mk2; go_at_call 12; refine (NH3.out _).mono ?_; rintro e r3 ⟨o3, c3, l3, rfl, m3, hb⟩; have T9 := hide (T8.out.trans (hb.mono T8.out.size)); have NT3 := hide (NT2.out.below hb); have Q13 := hide (Q12.out.below hb); have Q23 := hide (Q2.out.below hb); have Q33 := hide m3; obtain ⟨y00, y01, y02, y03, y10, y11, y12, y13, y20, y21, y22, y23, y30, y31, y32, y33⟩ := CELLS.out r3 T9.out; clear hb m3; have mk3 : True := trivial))
  all_goals (
    have A1 := hide (nr_add _ _ X1 X2 r3 Q13.out Q23.out SS.out.1.2.1 SS.out.1.2.2.1)
    clear p00 p01 p02 p03 p10 p11 p12 p13 p20 p21 p22 p23 p30 p31 p32 p33 q00 q01 q02 q03 q10 q11 q12 q13 q20 q21 q22 q23 q30 q31 q32 q33 s00 s01 s02 s03 s10 s11 s12 s13 s20 s21 s22 s23 s30 s31 s32 s33 y00 y01 y02 y03 y10 y11 y12 y13 y20 y21 y22 y23 y30 y31 y32 y33
    go_wp2_with fail
    refine A1.out.mono ?_
    rintro e g1 ⟨oc, cc, lc, rfl, nc, hb⟩
    have U1 := hide hb
    have CM1 := hide (nr_cmp _ _ (X1 + X2) (X0 + X0) za g1 nc (NT3.out.below hb) SS.out.2.2.1 SS.out.2.1 CZ.out.1)
    clear hb nc A1
    go_wp2_with fail
    refine CM1.out.mono ?_
    rintro e g2 ⟨rfl, hb⟩
    have U2 := hide (U1.out.trans (hb.mono U1.out.size))
    have A2 := hide (nr_add _ _ X2 X3 g2 (Q23.out.below U2.out) (Q33.out.below U2.out) SS.out.1.2.2.1 SS.out.1.2.2.2)
    clear hb CM1 U1
    go_wp2_with fail
    refine A2.out.mono ?_
    rintro e g3 ⟨od, cd, ld, rfl, nd, hb⟩
    have U3 := hide (U2.out.trans (hb.mono U2.out.size))
    have CM2 := hide (nr_cmp _ _ (X0 + X0) (X2 + X3) zb g3 (NT3.out.below U3.out) nd SS.out.2.1 SS.out.2.2.2 CZ.out.2)
    clear hb nd A2 U2
    go_wp2_with fail
    refine CM2.out.mono ?_
    rintro e g4 ⟨rfl, hb⟩
    have FIN := hide (HBW.out.trans ((T9.out.trans ((U3.out.trans (hb.mono U3.out.size)).mono T9.out.size)).mono HBW.out.size))
    clear hb CM2 U3
    go_wp2
    go_ret
    exact ⟨rfl, FIN.out⟩)

theorem near_walk (w : World) (htab : Tab w) (a : Nat) (ha : a < 18446744073709551616) :
    Calls Tryz.prog 3 #[.int .u64 (a : Int)] w fun e w' => e = .returned (.bool true) ∧ Below w.heap.size w w' := by
  have ax := clear_top' a ha
  obtain ⟨x, hx⟩ : ∃ x, x = a % 9223372036854775808 := ⟨_, rfl⟩
  rw [← hx] at ax
  by_cases h0 : x = 0
  · exact near_inf a x w htab ax (.inl (by omega))
  · by_cases h1 : x + 1 < 9218868437227405312
    · rcases Nat.mod_two_eq_zero_or_one x with h | h
      · exact near_even a x w htab ax h0 h1 h
      · exact near_odd a x w htab ax h0 h1 h
    · refine near_inf a x w htab ax (.inr ⟨?_, by omega⟩)
      have : ¬ (x : Int) = 0 := by omega
      simpa using this

end Go.Proofs.YtpiloigpncbccabGreatDoor
