/-
  The walk of ShortestStands.
-/
import Derived.Test.YtpiloigpncbccaaGreatDoorZSR
import Derived.Test.YtpiloigpncbccaaGreatDoorSForms
import Derived.Laws.BitsAllLaws
namespace Go.Proofs.YtpiloigpncbccaaGreatDoor
open Go.RowKit

theorem formed_both {a : Nat} (h : a < 9218868437227405312) : Formed (of64D a) 17 ∧ Formed (ex64D a) 767 := by
  obtain ⟨g1, g2, _⟩ := pos_fields h
  by_cases h0 : a = 0
  · subst h0
    rw [show of64D 0 = _ from zero_dec _, show ex64D 0 = _ from zero_dec _]
    exact ⟨formed_zero _ _, formed_zero _ _⟩
  · have e1 : (2 : Nat) ^ 52 = 4503599627370496 := by decide
    have := forms_some (b := a) (by rw [g1]; omega) (by rw [g1, e1]; omega)
    exact ⟨this.1.1, this.2.1⟩

theorem clear_top (a : Nat) (ha : a < 18446744073709551616) : bits .andNot .u64 (a : Int) 9223372036854775808 = ((a % 9223372036854775808 : Nat) : Int) := by
  have h := u64_andNot_nat a 9223372036854775808 ha (by omega)
  rw [show (18446744073709551615 - 9223372036854775808 : Nat) = 2 ^ 63 - 1 by decide, Nat.and_two_pow_sub_one_eq_mod, show (2 : Nat) ^ 63 = 9223372036854775808 by decide] at h
  exact h

theorem cmp_of {x y : Nat} (hx : x < 9218868437227405312) (hy : y < 9218868437227405312) : (x < y → cmpN (valD (of64D x)) (valD (of64D y)) = -1 ∧ cmpN (valD (ex64D x)) (valD (ex64D y)) = -1) ∧ (x = y → cmpN (valD (of64D x)) (valD (of64D y)) = 0 ∧ cmpN (valD (ex64D x)) (valD (ex64D y)) = 0) ∧ (y < x → cmpN (valD (of64D x)) (valD (of64D y)) = 1 ∧ cmpN (valD (ex64D x)) (valD (ex64D y)) = 1) := by
  refine ⟨fun h => ?_, fun h => ?_, fun h => ?_⟩
  · have h1 := of_lt h hy
    have h2 := ex_lt h hy
    unfold cmpN
    rw [if_pos h1, if_pos h2]; exact ⟨rfl, rfl⟩
  · subst h
    unfold cmpN
    simp
  · have h1 := of_lt h hx
    have h2 := ex_lt h hx
    unfold cmpN
    rw [if_neg (by omega), if_pos h1, if_neg (by omega), if_pos h2]; exact ⟨rfl, rfl⟩

set_option maxHeartbeats 1000000 in
theorem stands_inf (a b x y : Nat) (w : World) (htab : Tab w) (ax : bits .andNot .u64 (a : Int) 9223372036854775808 = (x : Int)) (by1 : bits .andNot .u64 (b : Int) 9223372036854775808 = (y : Int)) (h : (9218868437227405312 : Int) ≤ (x : Int) ∨ ¬ (9218868437227405312 : Int) ≤ (x : Int) ∧ (9218868437227405312 : Int) ≤ (y : Int)) :
    Calls Tryz.prog 7 #[.int .u64 (a : Int), .int .u64 (b : Int)] w fun e w' => e = .returned (.bool true) ∧ Below w.heap.size w w' := by
  have AW := hide (awake_any w htab)
  clear htab
  rcases h with h | ⟨h, h2⟩
  · go_enter Tryz.func7, Tryz.ntmps7
    go_wp2_with fail
    refine AW.out.mono ?_
    rintro e w1 ⟨rfl, hb1⟩
    have HB1 := hide hb1
    clear hb1 AW
    go_wp2
    go_ret
    exact ⟨rfl, HB1.out⟩
  · go_enter Tryz.func7, Tryz.ntmps7
    go_wp2_with fail
    refine AW.out.mono ?_
    rintro e w1 ⟨rfl, hb1⟩
    have HB1 := hide hb1
    clear hb1 AW
    go_wp2
    go_ret
    exact ⟨rfl, HB1.out⟩

set_option maxRecDepth 100000 in
set_option maxHeartbeats 4000000 in
theorem stands_lt (a b x y : Nat) (w : World) (htab : Tab w) (ax : bits .andNot .u64 (a : Int) 9223372036854775808 = (x : Int)) (by1 : bits .andNot .u64 (b : Int) 9223372036854775808 = (y : Int)) (hx : x < 9218868437227405312) (hy : y < 9218868437227405312) (hxy : (x : Int) < (y : Int)) :
    Calls Tryz.prog 7 #[.int .u64 (a : Int), .int .u64 (b : Int)] w fun e w' => e = .returned (.bool true) ∧ Below w.heap.size w w' := by
  have AW := hide (awake_any w htab)
  have HT := hide htab
  have fx := formed_both hx
  have fy := formed_both hy
  have cz := cmp_of hx hy
  have c12 : cmpN (valD (of64D x)) (valD (of64D y)) = -1 ∧ cmpN (valD (ex64D x)) (valD (ex64D y)) = -1 := by
    first | exact cz.1 (by omega) | exact cz.2.1 (by omega) | exact cz.2.2 (by omega)
  have C0 := fun W => of64_any x W (by omega)
  have M0 := fun W => formed_any (of64D x) 17 W (by omega) fx.1
  have C1 := fun W => of64_any y W (by omega)
  have M1 := fun W => formed_any (of64D y) 17 W (by omega) fy.1
  have C2 := fun W => exact64_any x W (by omega)
  have M2 := fun W => formed_any (ex64D x) 767 W (by omega) fx.2
  have C3 := fun W => exact64_any y W (by omega)
  have M3 := fun W => formed_any (ex64D y) 767 W (by omega) fy.2
  have O1 := fun W => order_any (of64D x) (of64D y) _ W (Plain.of fx.1 (by omega)) (Plain.of fy.1 (by omega)) c12.1
  have O2 := fun W => order_any (ex64D x) (ex64D y) _ W (Plain.of fx.2 (by omega)) (Plain.of fy.2 (by omega)) c12.2
  obtain ⟨n0, hn0⟩ : ∃ n, n = (of64D x).neg := ⟨_, rfl⟩
  obtain ⟨t0, ht0⟩ : ∃ t : ByteArray, t = ⟨(of64D x).dig.toArray⟩ := ⟨_, rfl⟩
  obtain ⟨e0, he0⟩ : ∃ e, e = (of64D x).exp := ⟨_, rfl⟩
  have F0 : decVal (of64D x) = .agg #[.int .i64 0, .bool n0, .string t0, .int .i64 e0] := by unfold decVal; rw [fx.1.cls, hn0, ht0, he0]; rfl
  obtain ⟨n1, hn1⟩ : ∃ n, n = (of64D y).neg := ⟨_, rfl⟩
  obtain ⟨t1, ht1⟩ : ∃ t : ByteArray, t = ⟨(of64D y).dig.toArray⟩ := ⟨_, rfl⟩
  obtain ⟨e1, he1⟩ : ∃ e, e = (of64D y).exp := ⟨_, rfl⟩
  have F1 : decVal (of64D y) = .agg #[.int .i64 0, .bool n1, .string t1, .int .i64 e1] := by unfold decVal; rw [fy.1.cls, hn1, ht1, he1]; rfl
  obtain ⟨n2, hn2⟩ : ∃ n, n = (ex64D x).neg := ⟨_, rfl⟩
  obtain ⟨t2, ht2⟩ : ∃ t : ByteArray, t = ⟨(ex64D x).dig.toArray⟩ := ⟨_, rfl⟩
  obtain ⟨e2, he2⟩ : ∃ e, e = (ex64D x).exp := ⟨_, rfl⟩
  have F2 : decVal (ex64D x) = .agg #[.int .i64 0, .bool n2, .string t2, .int .i64 e2] := by unfold decVal; rw [fx.2.cls, hn2, ht2, he2]; rfl
  obtain ⟨n3, hn3⟩ : ∃ n, n = (ex64D y).neg := ⟨_, rfl⟩
  obtain ⟨t3, ht3⟩ : ∃ t : ByteArray, t = ⟨(ex64D y).dig.toArray⟩ := ⟨_, rfl⟩
  obtain ⟨e3, he3⟩ : ∃ e, e = (ex64D y).exp := ⟨_, rfl⟩
  have F3 : decVal (ex64D y) = .agg #[.int .i64 0, .bool n3, .string t3, .int .i64 e3] := by unfold decVal; rw [fy.2.cls, hn3, ht3, he3]; rfl
  rw [F0] at C0 M0
  rw [F1] at C1 M1
  rw [F2] at C2 M2
  rw [F3] at C3 M3
  rw [F0, F1] at O1
  rw [F2, F3] at O2
  have CH0 := hide C0
  have MH0 := hide M0
  have CH1 := hide C1
  have MH1 := hide M1
  have CH2 := hide C2
  have MH2 := hide M2
  have CH3 := hide C3
  have MH3 := hide M3
  have OH1 := hide O1
  have OH2 := hide O2
  have hx' : decide ((9218868437227405312 : Int) ≤ (x : Int)) = false := decide_eq_false (by omega)
  have hy' : decide ((9218868437227405312 : Int) ≤ (y : Int)) = false := decide_eq_false (by omega)
  have hyx : ¬ (y : Int) < (x : Int) := by omega
  clear htab fx fy cz c12 O1 O2 hx hy C0 M0 F0 hn0 ht0 he0 C1 M1 F1 hn1 ht1 he1 C2 M2 F2 hn2 ht2 he2 C3 M3 F3 hn3 ht3 he3
  go_enter Tryz.func7, Tryz.ntmps7
  go_wp2_with fail
  refine AW.out.mono ?_
  rintro e w1 ⟨rfl, hb1⟩
  have HB1 := hide hb1
  clear hb1 AW
  go_wp2_with fail
  refine (CH0.out _ (HT.out.below HB1.out)).mono ?_
  rintro e w2 ⟨rfl, hb2⟩
  have HB2 := hide (HB1.out.trans (hb2.mono HB1.out.size))
  clear hb2 HB1 CH0
  go_wp2_with fail
  refine (CH1.out _ (HT.out.below HB2.out)).mono ?_
  rintro e w3 ⟨rfl, hb3⟩
  have HB3 := hide (HB2.out.trans (hb3.mono HB2.out.size))
  clear hb3 HB2 CH1
  go_wp2_with fail
  refine (CH2.out _ (HT.out.below HB3.out)).mono ?_
  rintro e w4 ⟨rfl, hb4⟩
  have HB4 := hide (HB3.out.trans (hb4.mono HB3.out.size))
  clear hb4 HB3 CH2
  go_wp2_with fail
  refine (CH3.out _ (HT.out.below HB4.out)).mono ?_
  rintro e w5 ⟨rfl, hb5⟩
  have HB5 := hide (HB4.out.trans (hb5.mono HB4.out.size))
  clear hb5 HB4 CH3
  have K0 := (((Blk.new w5 #[.int .i64 0, .bool n0, .string t0, .int .i64 e0] 25).alloc (.cells #[.int .i64 0, .bool n1, .string t1, .int .i64 e1] 25)).alloc (.cells #[.int .i64 0, .bool n2, .string t2, .int .i64 e2] 25)).alloc (.cells #[.int .i64 0, .bool n3, .string t3, .int .i64 e3] 25)
  have K1 := ((Blk.newAt (w5.alloc (.cells #[.int .i64 0, .bool n0, .string t0, .int .i64 e0] 25)) (w5.heap.size + 1) (by simp) #[.int .i64 0, .bool n1, .string t1, .int .i64 e1] 25).alloc (.cells #[.int .i64 0, .bool n2, .string t2, .int .i64 e2] 25)).alloc (.cells #[.int .i64 0, .bool n3, .string t3, .int .i64 e3] 25)
  have K2 := (Blk.newAt ((w5.alloc (.cells #[.int .i64 0, .bool n0, .string t0, .int .i64 e0] 25)).alloc (.cells #[.int .i64 0, .bool n1, .string t1, .int .i64 e1] 25)) (w5.heap.size + 1 + 1) (by simp) #[.int .i64 0, .bool n2, .string t2, .int .i64 e2] 25).alloc (.cells #[.int .i64 0, .bool n3, .string t3, .int .i64 e3] 25)
  have K3 := Blk.newAt (((w5.alloc (.cells #[.int .i64 0, .bool n0, .string t0, .int .i64 e0] 25)).alloc (.cells #[.int .i64 0, .bool n1, .string t1, .int .i64 e1] 25)).alloc (.cells #[.int .i64 0, .bool n2, .string t2, .int .i64 e2] 25)) (w5.heap.size + 1 + 1 + 1) (by simp) #[.int .i64 0, .bool n3, .string t3, .int .i64 e3] 25
  obtain ⟨W, hW⟩ : ∃ W, W = ((((w5.alloc (.cells #[.int .i64 0, .bool n0, .string t0, .int .i64 e0] 25)).alloc (.cells #[.int .i64 0, .bool n1, .string t1, .int .i64 e1] 25)).alloc (.cells #[.int .i64 0, .bool n2, .string t2, .int .i64 e2] 25)).alloc (.cells #[.int .i64 0, .bool n3, .string t3, .int .i64 e3] 25)) := ⟨_, rfl⟩
  rw [← hW] at K0 K1 K2 K3
  have HBW : Hid (Below w.heap.size w W) := by
    rw [hW]
    exact HB5.out.trans (((((Below.refl _ _).alloc (Nat.le_refl _) _).alloc (by simp) _).alloc (by simp; omega) _).alloc (by simp; omega) _ |>.mono HB5.out.size)
  obtain ⟨H0, eH0⟩ : ∃ H, H = w5.heap.size := ⟨_, rfl⟩
  rw [← eH0] at K0
  obtain ⟨H1, eH1⟩ : ∃ H, H = w5.heap.size + 1 := ⟨_, rfl⟩
  rw [← eH1] at K1
  obtain ⟨H2, eH2⟩ : ∃ H, H = w5.heap.size + 1 + 1 := ⟨_, rfl⟩
  rw [← eH2] at K2
  obtain ⟨H3, eH3⟩ : ∃ H, H = w5.heap.size + 1 + 1 + 1 := ⟨_, rfl⟩
  rw [← eH3] at K3
  have CELLS : Hid (∀ w', Below W.heap.size W w' → w'.cell? ⟨H0, 0, none⟩ = some (.int .i64 0) ∧ w'.cell? ⟨H0, 1, none⟩ = some (.bool n0) ∧ w'.cell? ⟨H0, 2, none⟩ = some (.string t0) ∧ w'.cell? ⟨H0, 3, none⟩ = some (.int .i64 e0) ∧ w'.cell? ⟨H1, 0, none⟩ = some (.int .i64 0) ∧ w'.cell? ⟨H1, 1, none⟩ = some (.bool n1) ∧ w'.cell? ⟨H1, 2, none⟩ = some (.string t1) ∧ w'.cell? ⟨H1, 3, none⟩ = some (.int .i64 e1) ∧ w'.cell? ⟨H2, 0, none⟩ = some (.int .i64 0) ∧ w'.cell? ⟨H2, 1, none⟩ = some (.bool n2) ∧ w'.cell? ⟨H2, 2, none⟩ = some (.string t2) ∧ w'.cell? ⟨H2, 3, none⟩ = some (.int .i64 e2) ∧ w'.cell? ⟨H3, 0, none⟩ = some (.int .i64 0) ∧ w'.cell? ⟨H3, 1, none⟩ = some (.bool n3) ∧ w'.cell? ⟨H3, 2, none⟩ = some (.string t3) ∧ w'.cell? ⟨H3, 3, none⟩ = some (.int .i64 e3)) := fun w' hb => ⟨(K0.below hb K0.lt).cell 0, (K0.below hb K0.lt).cell 1, (K0.below hb K0.lt).cell 2, (K0.below hb K0.lt).cell 3, (K1.below hb K1.lt).cell 0, (K1.below hb K1.lt).cell 1, (K1.below hb K1.lt).cell 2, (K1.below hb K1.lt).cell 3, (K2.below hb K2.lt).cell 0, (K2.below hb K2.lt).cell 1, (K2.below hb K2.lt).cell 2, (K2.below hb K2.lt).cell 3, (K3.below hb K3.lt).cell 0, (K3.below hb K3.lt).cell 1, (K3.below hb K3.lt).cell 2, (K3.below hb K3.lt).cell 3⟩
  have HWE := hide hW
  have EH0 := hide eH0
  have EH1 := hide eH1
  have EH2 := hide eH2
  have EH3 := hide eH3
  clear hW K0 eH0 K1 eH1 K2 eH2 K3 eH3
  go_wp2_with fail
  simp only [← HWE.out]
  simp only [← EH3.out]
  simp only [← EH2.out]
  simp only [← EH1.out]
  simp only [← EH0.out]
  refine (MH0.out _).mono ?_
  rintro e v1 ⟨rfl, hb⟩
  have T1 := hide hb
  obtain ⟨p00, p01, p02, p03, p10, p11, p12, p13, p20, p21, p22, p23, p30, p31, p32, p33⟩ := CELLS.out v1 T1.out
  clear hb MH0
  go_wp2_with fail
  refine (MH1.out _).mono ?_
  rintro e v2 ⟨rfl, hb⟩
  have T2 := hide (T1.out.trans (hb.mono T1.out.size))
  clear p00 p01 p02 p03 p10 p11 p12 p13 p20 p21 p22 p23 p30 p31 p32 p33
  obtain ⟨p00, p01, p02, p03, p10, p11, p12, p13, p20, p21, p22, p23, p30, p31, p32, p33⟩ := CELLS.out v2 T2.out
  clear hb MH1 T1
  go_wp2_with fail
  refine (MH2.out _).mono ?_
  rintro e v3 ⟨rfl, hb⟩
  have T3 := hide (T2.out.trans (hb.mono T2.out.size))
  clear p00 p01 p02 p03 p10 p11 p12 p13 p20 p21 p22 p23 p30 p31 p32 p33
  obtain ⟨p00, p01, p02, p03, p10, p11, p12, p13, p20, p21, p22, p23, p30, p31, p32, p33⟩ := CELLS.out v3 T3.out
  clear hb MH2 T2
  go_wp2_with fail
  refine (MH3.out _).mono ?_
  rintro e v4 ⟨rfl, hb⟩
  have T4 := hide (T3.out.trans (hb.mono T3.out.size))
  clear p00 p01 p02 p03 p10 p11 p12 p13 p20 p21 p22 p23 p30 p31 p32 p33
  obtain ⟨p00, p01, p02, p03, p10, p11, p12, p13, p20, p21, p22, p23, p30, p31, p32, p33⟩ := CELLS.out v4 T4.out
  clear hb MH3 T3
  go_wp2_with fail
  refine (OH1.out _).mono ?_
  rintro e v5 ⟨rfl, hb⟩
  have T5 := hide (T4.out.trans (hb.mono T4.out.size))
  clear p00 p01 p02 p03 p10 p11 p12 p13 p20 p21 p22 p23 p30 p31 p32 p33
  obtain ⟨p00, p01, p02, p03, p10, p11, p12, p13, p20, p21, p22, p23, p30, p31, p32, p33⟩ := CELLS.out v5 T5.out
  clear hb OH1 T4
  go_wp2_with fail
  refine (OH2.out _).mono ?_
  rintro e v6 ⟨rfl, hb⟩
  have T6 := hide (T5.out.trans (hb.mono T5.out.size))
  have FIN := hide (HBW.out.trans (T6.out.mono HBW.out.size))
  clear p00 p01 p02 p03 p10 p11 p12 p13 p20 p21 p22 p23 p30 p31 p32 p33
  clear hb OH2 T5
  go_wp2
  go_ret
  exact ⟨rfl, FIN.out⟩

set_option maxRecDepth 100000 in
set_option maxHeartbeats 4000000 in
theorem stands_eq (a b x y : Nat) (w : World) (htab : Tab w) (ax : bits .andNot .u64 (a : Int) 9223372036854775808 = (x : Int)) (by1 : bits .andNot .u64 (b : Int) 9223372036854775808 = (y : Int)) (hx : x < 9218868437227405312) (hy : y < 9218868437227405312) (hxy : (x : Int) = (y : Int)) :
    Calls Tryz.prog 7 #[.int .u64 (a : Int), .int .u64 (b : Int)] w fun e w' => e = .returned (.bool true) ∧ Below w.heap.size w w' := by
  have AW := hide (awake_any w htab)
  have HT := hide htab
  have fx := formed_both hx
  have fy := formed_both hy
  have cz := cmp_of hx hy
  have c12 : cmpN (valD (of64D x)) (valD (of64D y)) = 0 ∧ cmpN (valD (ex64D x)) (valD (ex64D y)) = 0 := by
    first | exact cz.1 (by omega) | exact cz.2.1 (by omega) | exact cz.2.2 (by omega)
  have C0 := fun W => of64_any x W (by omega)
  have M0 := fun W => formed_any (of64D x) 17 W (by omega) fx.1
  have C1 := fun W => of64_any y W (by omega)
  have M1 := fun W => formed_any (of64D y) 17 W (by omega) fy.1
  have C2 := fun W => exact64_any x W (by omega)
  have M2 := fun W => formed_any (ex64D x) 767 W (by omega) fx.2
  have C3 := fun W => exact64_any y W (by omega)
  have M3 := fun W => formed_any (ex64D y) 767 W (by omega) fy.2
  have O1 := fun W => order_any (of64D x) (of64D y) _ W (Plain.of fx.1 (by omega)) (Plain.of fy.1 (by omega)) c12.1
  have O2 := fun W => order_any (ex64D x) (ex64D y) _ W (Plain.of fx.2 (by omega)) (Plain.of fy.2 (by omega)) c12.2
  obtain ⟨n0, hn0⟩ : ∃ n, n = (of64D x).neg := ⟨_, rfl⟩
  obtain ⟨t0, ht0⟩ : ∃ t : ByteArray, t = ⟨(of64D x).dig.toArray⟩ := ⟨_, rfl⟩
  obtain ⟨e0, he0⟩ : ∃ e, e = (of64D x).exp := ⟨_, rfl⟩
  have F0 : decVal (of64D x) = .agg #[.int .i64 0, .bool n0, .string t0, .int .i64 e0] := by unfold decVal; rw [fx.1.cls, hn0, ht0, he0]; rfl
  obtain ⟨n1, hn1⟩ : ∃ n, n = (of64D y).neg := ⟨_, rfl⟩
  obtain ⟨t1, ht1⟩ : ∃ t : ByteArray, t = ⟨(of64D y).dig.toArray⟩ := ⟨_, rfl⟩
  obtain ⟨e1, he1⟩ : ∃ e, e = (of64D y).exp := ⟨_, rfl⟩
  have F1 : decVal (of64D y) = .agg #[.int .i64 0, .bool n1, .string t1, .int .i64 e1] := by unfold decVal; rw [fy.1.cls, hn1, ht1, he1]; rfl
  obtain ⟨n2, hn2⟩ : ∃ n, n = (ex64D x).neg := ⟨_, rfl⟩
  obtain ⟨t2, ht2⟩ : ∃ t : ByteArray, t = ⟨(ex64D x).dig.toArray⟩ := ⟨_, rfl⟩
  obtain ⟨e2, he2⟩ : ∃ e, e = (ex64D x).exp := ⟨_, rfl⟩
  have F2 : decVal (ex64D x) = .agg #[.int .i64 0, .bool n2, .string t2, .int .i64 e2] := by unfold decVal; rw [fx.2.cls, hn2, ht2, he2]; rfl
  obtain ⟨n3, hn3⟩ : ∃ n, n = (ex64D y).neg := ⟨_, rfl⟩
  obtain ⟨t3, ht3⟩ : ∃ t : ByteArray, t = ⟨(ex64D y).dig.toArray⟩ := ⟨_, rfl⟩
  obtain ⟨e3, he3⟩ : ∃ e, e = (ex64D y).exp := ⟨_, rfl⟩
  have F3 : decVal (ex64D y) = .agg #[.int .i64 0, .bool n3, .string t3, .int .i64 e3] := by unfold decVal; rw [fy.2.cls, hn3, ht3, he3]; rfl
  rw [F0] at C0 M0
  rw [F1] at C1 M1
  rw [F2] at C2 M2
  rw [F3] at C3 M3
  rw [F0, F1] at O1
  rw [F2, F3] at O2
  have CH0 := hide C0
  have MH0 := hide M0
  have CH1 := hide C1
  have MH1 := hide M1
  have CH2 := hide C2
  have MH2 := hide M2
  have CH3 := hide C3
  have MH3 := hide M3
  have OH1 := hide O1
  have OH2 := hide O2
  have hx' : decide ((9218868437227405312 : Int) ≤ (x : Int)) = false := decide_eq_false (by omega)
  have hy' : decide ((9218868437227405312 : Int) ≤ (y : Int)) = false := decide_eq_false (by omega)
  obtain rfl : x = y := by omega
  have hl : ¬ (x : Int) < (x : Int) := by omega
  clear htab fx fy cz c12 O1 O2 hx hy C0 M0 F0 hn0 ht0 he0 C1 M1 F1 hn1 ht1 he1 C2 M2 F2 hn2 ht2 he2 C3 M3 F3 hn3 ht3 he3
  go_enter Tryz.func7, Tryz.ntmps7
  go_wp2_with fail
  refine AW.out.mono ?_
  rintro e w1 ⟨rfl, hb1⟩
  have HB1 := hide hb1
  clear hb1 AW
  go_wp2_with fail
  refine (CH0.out _ (HT.out.below HB1.out)).mono ?_
  rintro e w2 ⟨rfl, hb2⟩
  have HB2 := hide (HB1.out.trans (hb2.mono HB1.out.size))
  clear hb2 HB1 CH0
  go_wp2_with fail
  refine (CH1.out _ (HT.out.below HB2.out)).mono ?_
  rintro e w3 ⟨rfl, hb3⟩
  have HB3 := hide (HB2.out.trans (hb3.mono HB2.out.size))
  clear hb3 HB2 CH1
  go_wp2_with fail
  refine (CH2.out _ (HT.out.below HB3.out)).mono ?_
  rintro e w4 ⟨rfl, hb4⟩
  have HB4 := hide (HB3.out.trans (hb4.mono HB3.out.size))
  clear hb4 HB3 CH2
  go_wp2_with fail
  refine (CH3.out _ (HT.out.below HB4.out)).mono ?_
  rintro e w5 ⟨rfl, hb5⟩
  have HB5 := hide (HB4.out.trans (hb5.mono HB4.out.size))
  clear hb5 HB4 CH3
  have K0 := (((Blk.new w5 #[.int .i64 0, .bool n0, .string t0, .int .i64 e0] 25).alloc (.cells #[.int .i64 0, .bool n1, .string t1, .int .i64 e1] 25)).alloc (.cells #[.int .i64 0, .bool n2, .string t2, .int .i64 e2] 25)).alloc (.cells #[.int .i64 0, .bool n3, .string t3, .int .i64 e3] 25)
  have K1 := ((Blk.newAt (w5.alloc (.cells #[.int .i64 0, .bool n0, .string t0, .int .i64 e0] 25)) (w5.heap.size + 1) (by simp) #[.int .i64 0, .bool n1, .string t1, .int .i64 e1] 25).alloc (.cells #[.int .i64 0, .bool n2, .string t2, .int .i64 e2] 25)).alloc (.cells #[.int .i64 0, .bool n3, .string t3, .int .i64 e3] 25)
  have K2 := (Blk.newAt ((w5.alloc (.cells #[.int .i64 0, .bool n0, .string t0, .int .i64 e0] 25)).alloc (.cells #[.int .i64 0, .bool n1, .string t1, .int .i64 e1] 25)) (w5.heap.size + 1 + 1) (by simp) #[.int .i64 0, .bool n2, .string t2, .int .i64 e2] 25).alloc (.cells #[.int .i64 0, .bool n3, .string t3, .int .i64 e3] 25)
  have K3 := Blk.newAt (((w5.alloc (.cells #[.int .i64 0, .bool n0, .string t0, .int .i64 e0] 25)).alloc (.cells #[.int .i64 0, .bool n1, .string t1, .int .i64 e1] 25)).alloc (.cells #[.int .i64 0, .bool n2, .string t2, .int .i64 e2] 25)) (w5.heap.size + 1 + 1 + 1) (by simp) #[.int .i64 0, .bool n3, .string t3, .int .i64 e3] 25
  obtain ⟨W, hW⟩ : ∃ W, W = ((((w5.alloc (.cells #[.int .i64 0, .bool n0, .string t0, .int .i64 e0] 25)).alloc (.cells #[.int .i64 0, .bool n1, .string t1, .int .i64 e1] 25)).alloc (.cells #[.int .i64 0, .bool n2, .string t2, .int .i64 e2] 25)).alloc (.cells #[.int .i64 0, .bool n3, .string t3, .int .i64 e3] 25)) := ⟨_, rfl⟩
  rw [← hW] at K0 K1 K2 K3
  have HBW : Hid (Below w.heap.size w W) := by
    rw [hW]
    exact HB5.out.trans (((((Below.refl _ _).alloc (Nat.le_refl _) _).alloc (by simp) _).alloc (by simp; omega) _).alloc (by simp; omega) _ |>.mono HB5.out.size)
  obtain ⟨H0, eH0⟩ : ∃ H, H = w5.heap.size := ⟨_, rfl⟩
  rw [← eH0] at K0
  obtain ⟨H1, eH1⟩ : ∃ H, H = w5.heap.size + 1 := ⟨_, rfl⟩
  rw [← eH1] at K1
  obtain ⟨H2, eH2⟩ : ∃ H, H = w5.heap.size + 1 + 1 := ⟨_, rfl⟩
  rw [← eH2] at K2
  obtain ⟨H3, eH3⟩ : ∃ H, H = w5.heap.size + 1 + 1 + 1 := ⟨_, rfl⟩
  rw [← eH3] at K3
  have CELLS : Hid (∀ w', Below W.heap.size W w' → w'.cell? ⟨H0, 0, none⟩ = some (.int .i64 0) ∧ w'.cell? ⟨H0, 1, none⟩ = some (.bool n0) ∧ w'.cell? ⟨H0, 2, none⟩ = some (.string t0) ∧ w'.cell? ⟨H0, 3, none⟩ = some (.int .i64 e0) ∧ w'.cell? ⟨H1, 0, none⟩ = some (.int .i64 0) ∧ w'.cell? ⟨H1, 1, none⟩ = some (.bool n1) ∧ w'.cell? ⟨H1, 2, none⟩ = some (.string t1) ∧ w'.cell? ⟨H1, 3, none⟩ = some (.int .i64 e1) ∧ w'.cell? ⟨H2, 0, none⟩ = some (.int .i64 0) ∧ w'.cell? ⟨H2, 1, none⟩ = some (.bool n2) ∧ w'.cell? ⟨H2, 2, none⟩ = some (.string t2) ∧ w'.cell? ⟨H2, 3, none⟩ = some (.int .i64 e2) ∧ w'.cell? ⟨H3, 0, none⟩ = some (.int .i64 0) ∧ w'.cell? ⟨H3, 1, none⟩ = some (.bool n3) ∧ w'.cell? ⟨H3, 2, none⟩ = some (.string t3) ∧ w'.cell? ⟨H3, 3, none⟩ = some (.int .i64 e3)) := fun w' hb => ⟨(K0.below hb K0.lt).cell 0, (K0.below hb K0.lt).cell 1, (K0.below hb K0.lt).cell 2, (K0.below hb K0.lt).cell 3, (K1.below hb K1.lt).cell 0, (K1.below hb K1.lt).cell 1, (K1.below hb K1.lt).cell 2, (K1.below hb K1.lt).cell 3, (K2.below hb K2.lt).cell 0, (K2.below hb K2.lt).cell 1, (K2.below hb K2.lt).cell 2, (K2.below hb K2.lt).cell 3, (K3.below hb K3.lt).cell 0, (K3.below hb K3.lt).cell 1, (K3.below hb K3.lt).cell 2, (K3.below hb K3.lt).cell 3⟩
  have HWE := hide hW
  have EH0 := hide eH0
  have EH1 := hide eH1
  have EH2 := hide eH2
  have EH3 := hide eH3
  clear hW K0 eH0 K1 eH1 K2 eH2 K3 eH3
  go_wp2_with fail
  simp only [← HWE.out]
  simp only [← EH3.out]
  simp only [← EH2.out]
  simp only [← EH1.out]
  simp only [← EH0.out]
  refine (MH0.out _).mono ?_
  rintro e v1 ⟨rfl, hb⟩
  have T1 := hide hb
  obtain ⟨p00, p01, p02, p03, p10, p11, p12, p13, p20, p21, p22, p23, p30, p31, p32, p33⟩ := CELLS.out v1 T1.out
  clear hb MH0
  go_wp2_with fail
  refine (MH1.out _).mono ?_
  rintro e v2 ⟨rfl, hb⟩
  have T2 := hide (T1.out.trans (hb.mono T1.out.size))
  clear p00 p01 p02 p03 p10 p11 p12 p13 p20 p21 p22 p23 p30 p31 p32 p33
  obtain ⟨p00, p01, p02, p03, p10, p11, p12, p13, p20, p21, p22, p23, p30, p31, p32, p33⟩ := CELLS.out v2 T2.out
  clear hb MH1 T1
  go_wp2_with fail
  refine (MH2.out _).mono ?_
  rintro e v3 ⟨rfl, hb⟩
  have T3 := hide (T2.out.trans (hb.mono T2.out.size))
  clear p00 p01 p02 p03 p10 p11 p12 p13 p20 p21 p22 p23 p30 p31 p32 p33
  obtain ⟨p00, p01, p02, p03, p10, p11, p12, p13, p20, p21, p22, p23, p30, p31, p32, p33⟩ := CELLS.out v3 T3.out
  clear hb MH2 T2
  go_wp2_with fail
  refine (MH3.out _).mono ?_
  rintro e v4 ⟨rfl, hb⟩
  have T4 := hide (T3.out.trans (hb.mono T3.out.size))
  clear p00 p01 p02 p03 p10 p11 p12 p13 p20 p21 p22 p23 p30 p31 p32 p33
  obtain ⟨p00, p01, p02, p03, p10, p11, p12, p13, p20, p21, p22, p23, p30, p31, p32, p33⟩ := CELLS.out v4 T4.out
  clear hb MH3 T3
  go_wp2_with fail
  refine (OH1.out _).mono ?_
  rintro e v5 ⟨rfl, hb⟩
  have T5 := hide (T4.out.trans (hb.mono T4.out.size))
  clear p00 p01 p02 p03 p10 p11 p12 p13 p20 p21 p22 p23 p30 p31 p32 p33
  obtain ⟨p00, p01, p02, p03, p10, p11, p12, p13, p20, p21, p22, p23, p30, p31, p32, p33⟩ := CELLS.out v5 T5.out
  clear hb OH1 T4
  go_wp2_with fail
  refine (OH2.out _).mono ?_
  rintro e v6 ⟨rfl, hb⟩
  have T6 := hide (T5.out.trans (hb.mono T5.out.size))
  have FIN := hide (HBW.out.trans (T6.out.mono HBW.out.size))
  clear p00 p01 p02 p03 p10 p11 p12 p13 p20 p21 p22 p23 p30 p31 p32 p33
  clear hb OH2 T5
  go_wp2
  go_ret
  exact ⟨rfl, FIN.out⟩

set_option maxRecDepth 100000 in
set_option maxHeartbeats 4000000 in
theorem stands_gt (a b x y : Nat) (w : World) (htab : Tab w) (ax : bits .andNot .u64 (a : Int) 9223372036854775808 = (x : Int)) (by1 : bits .andNot .u64 (b : Int) 9223372036854775808 = (y : Int)) (hx : x < 9218868437227405312) (hy : y < 9218868437227405312) (_hxy : ¬ (x : Int) < (y : Int)) (hyx : (y : Int) < (x : Int)) :
    Calls Tryz.prog 7 #[.int .u64 (a : Int), .int .u64 (b : Int)] w fun e w' => e = .returned (.bool true) ∧ Below w.heap.size w w' := by
  have AW := hide (awake_any w htab)
  have HT := hide htab
  have fx := formed_both hx
  have fy := formed_both hy
  have cz := cmp_of hx hy
  have c12 : cmpN (valD (of64D x)) (valD (of64D y)) = 1 ∧ cmpN (valD (ex64D x)) (valD (ex64D y)) = 1 := by
    first | exact cz.1 (by omega) | exact cz.2.1 (by omega) | exact cz.2.2 (by omega)
  have C0 := fun W => of64_any x W (by omega)
  have M0 := fun W => formed_any (of64D x) 17 W (by omega) fx.1
  have C1 := fun W => of64_any y W (by omega)
  have M1 := fun W => formed_any (of64D y) 17 W (by omega) fy.1
  have C2 := fun W => exact64_any x W (by omega)
  have M2 := fun W => formed_any (ex64D x) 767 W (by omega) fx.2
  have C3 := fun W => exact64_any y W (by omega)
  have M3 := fun W => formed_any (ex64D y) 767 W (by omega) fy.2
  have O1 := fun W => order_any (of64D x) (of64D y) _ W (Plain.of fx.1 (by omega)) (Plain.of fy.1 (by omega)) c12.1
  have O2 := fun W => order_any (ex64D x) (ex64D y) _ W (Plain.of fx.2 (by omega)) (Plain.of fy.2 (by omega)) c12.2
  obtain ⟨n0, hn0⟩ : ∃ n, n = (of64D x).neg := ⟨_, rfl⟩
  obtain ⟨t0, ht0⟩ : ∃ t : ByteArray, t = ⟨(of64D x).dig.toArray⟩ := ⟨_, rfl⟩
  obtain ⟨e0, he0⟩ : ∃ e, e = (of64D x).exp := ⟨_, rfl⟩
  have F0 : decVal (of64D x) = .agg #[.int .i64 0, .bool n0, .string t0, .int .i64 e0] := by unfold decVal; rw [fx.1.cls, hn0, ht0, he0]; rfl
  obtain ⟨n1, hn1⟩ : ∃ n, n = (of64D y).neg := ⟨_, rfl⟩
  obtain ⟨t1, ht1⟩ : ∃ t : ByteArray, t = ⟨(of64D y).dig.toArray⟩ := ⟨_, rfl⟩
  obtain ⟨e1, he1⟩ : ∃ e, e = (of64D y).exp := ⟨_, rfl⟩
  have F1 : decVal (of64D y) = .agg #[.int .i64 0, .bool n1, .string t1, .int .i64 e1] := by unfold decVal; rw [fy.1.cls, hn1, ht1, he1]; rfl
  obtain ⟨n2, hn2⟩ : ∃ n, n = (ex64D x).neg := ⟨_, rfl⟩
  obtain ⟨t2, ht2⟩ : ∃ t : ByteArray, t = ⟨(ex64D x).dig.toArray⟩ := ⟨_, rfl⟩
  obtain ⟨e2, he2⟩ : ∃ e, e = (ex64D x).exp := ⟨_, rfl⟩
  have F2 : decVal (ex64D x) = .agg #[.int .i64 0, .bool n2, .string t2, .int .i64 e2] := by unfold decVal; rw [fx.2.cls, hn2, ht2, he2]; rfl
  obtain ⟨n3, hn3⟩ : ∃ n, n = (ex64D y).neg := ⟨_, rfl⟩
  obtain ⟨t3, ht3⟩ : ∃ t : ByteArray, t = ⟨(ex64D y).dig.toArray⟩ := ⟨_, rfl⟩
  obtain ⟨e3, he3⟩ : ∃ e, e = (ex64D y).exp := ⟨_, rfl⟩
  have F3 : decVal (ex64D y) = .agg #[.int .i64 0, .bool n3, .string t3, .int .i64 e3] := by unfold decVal; rw [fy.2.cls, hn3, ht3, he3]; rfl
  rw [F0] at C0 M0
  rw [F1] at C1 M1
  rw [F2] at C2 M2
  rw [F3] at C3 M3
  rw [F0, F1] at O1
  rw [F2, F3] at O2
  have CH0 := hide C0
  have MH0 := hide M0
  have CH1 := hide C1
  have MH1 := hide M1
  have CH2 := hide C2
  have MH2 := hide M2
  have CH3 := hide C3
  have MH3 := hide M3
  have OH1 := hide O1
  have OH2 := hide O2
  have hx' : decide ((9218868437227405312 : Int) ≤ (x : Int)) = false := decide_eq_false (by omega)
  have hy' : decide ((9218868437227405312 : Int) ≤ (y : Int)) = false := decide_eq_false (by omega)
  clear htab fx fy cz c12 O1 O2 hx hy C0 M0 F0 hn0 ht0 he0 C1 M1 F1 hn1 ht1 he1 C2 M2 F2 hn2 ht2 he2 C3 M3 F3 hn3 ht3 he3
  go_enter Tryz.func7, Tryz.ntmps7
  go_wp2_with fail
  refine AW.out.mono ?_
  rintro e w1 ⟨rfl, hb1⟩
  have HB1 := hide hb1
  clear hb1 AW
  go_wp2_with fail
  refine (CH0.out _ (HT.out.below HB1.out)).mono ?_
  rintro e w2 ⟨rfl, hb2⟩
  have HB2 := hide (HB1.out.trans (hb2.mono HB1.out.size))
  clear hb2 HB1 CH0
  go_wp2_with fail
  refine (CH1.out _ (HT.out.below HB2.out)).mono ?_
  rintro e w3 ⟨rfl, hb3⟩
  have HB3 := hide (HB2.out.trans (hb3.mono HB2.out.size))
  clear hb3 HB2 CH1
  go_wp2_with fail
  refine (CH2.out _ (HT.out.below HB3.out)).mono ?_
  rintro e w4 ⟨rfl, hb4⟩
  have HB4 := hide (HB3.out.trans (hb4.mono HB3.out.size))
  clear hb4 HB3 CH2
  go_wp2_with fail
  refine (CH3.out _ (HT.out.below HB4.out)).mono ?_
  rintro e w5 ⟨rfl, hb5⟩
  have HB5 := hide (HB4.out.trans (hb5.mono HB4.out.size))
  clear hb5 HB4 CH3
  have K0 := (((Blk.new w5 #[.int .i64 0, .bool n0, .string t0, .int .i64 e0] 25).alloc (.cells #[.int .i64 0, .bool n1, .string t1, .int .i64 e1] 25)).alloc (.cells #[.int .i64 0, .bool n2, .string t2, .int .i64 e2] 25)).alloc (.cells #[.int .i64 0, .bool n3, .string t3, .int .i64 e3] 25)
  have K1 := ((Blk.newAt (w5.alloc (.cells #[.int .i64 0, .bool n0, .string t0, .int .i64 e0] 25)) (w5.heap.size + 1) (by simp) #[.int .i64 0, .bool n1, .string t1, .int .i64 e1] 25).alloc (.cells #[.int .i64 0, .bool n2, .string t2, .int .i64 e2] 25)).alloc (.cells #[.int .i64 0, .bool n3, .string t3, .int .i64 e3] 25)
  have K2 := (Blk.newAt ((w5.alloc (.cells #[.int .i64 0, .bool n0, .string t0, .int .i64 e0] 25)).alloc (.cells #[.int .i64 0, .bool n1, .string t1, .int .i64 e1] 25)) (w5.heap.size + 1 + 1) (by simp) #[.int .i64 0, .bool n2, .string t2, .int .i64 e2] 25).alloc (.cells #[.int .i64 0, .bool n3, .string t3, .int .i64 e3] 25)
  have K3 := Blk.newAt (((w5.alloc (.cells #[.int .i64 0, .bool n0, .string t0, .int .i64 e0] 25)).alloc (.cells #[.int .i64 0, .bool n1, .string t1, .int .i64 e1] 25)).alloc (.cells #[.int .i64 0, .bool n2, .string t2, .int .i64 e2] 25)) (w5.heap.size + 1 + 1 + 1) (by simp) #[.int .i64 0, .bool n3, .string t3, .int .i64 e3] 25
  obtain ⟨W, hW⟩ : ∃ W, W = ((((w5.alloc (.cells #[.int .i64 0, .bool n0, .string t0, .int .i64 e0] 25)).alloc (.cells #[.int .i64 0, .bool n1, .string t1, .int .i64 e1] 25)).alloc (.cells #[.int .i64 0, .bool n2, .string t2, .int .i64 e2] 25)).alloc (.cells #[.int .i64 0, .bool n3, .string t3, .int .i64 e3] 25)) := ⟨_, rfl⟩
  rw [← hW] at K0 K1 K2 K3
  have HBW : Hid (Below w.heap.size w W) := by
    rw [hW]
    exact HB5.out.trans (((((Below.refl _ _).alloc (Nat.le_refl _) _).alloc (by simp) _).alloc (by simp; omega) _).alloc (by simp; omega) _ |>.mono HB5.out.size)
  obtain ⟨H0, eH0⟩ : ∃ H, H = w5.heap.size := ⟨_, rfl⟩
  rw [← eH0] at K0
  obtain ⟨H1, eH1⟩ : ∃ H, H = w5.heap.size + 1 := ⟨_, rfl⟩
  rw [← eH1] at K1
  obtain ⟨H2, eH2⟩ : ∃ H, H = w5.heap.size + 1 + 1 := ⟨_, rfl⟩
  rw [← eH2] at K2
  obtain ⟨H3, eH3⟩ : ∃ H, H = w5.heap.size + 1 + 1 + 1 := ⟨_, rfl⟩
  rw [← eH3] at K3
  have CELLS : Hid (∀ w', Below W.heap.size W w' → w'.cell? ⟨H0, 0, none⟩ = some (.int .i64 0) ∧ w'.cell? ⟨H0, 1, none⟩ = some (.bool n0) ∧ w'.cell? ⟨H0, 2, none⟩ = some (.string t0) ∧ w'.cell? ⟨H0, 3, none⟩ = some (.int .i64 e0) ∧ w'.cell? ⟨H1, 0, none⟩ = some (.int .i64 0) ∧ w'.cell? ⟨H1, 1, none⟩ = some (.bool n1) ∧ w'.cell? ⟨H1, 2, none⟩ = some (.string t1) ∧ w'.cell? ⟨H1, 3, none⟩ = some (.int .i64 e1) ∧ w'.cell? ⟨H2, 0, none⟩ = some (.int .i64 0) ∧ w'.cell? ⟨H2, 1, none⟩ = some (.bool n2) ∧ w'.cell? ⟨H2, 2, none⟩ = some (.string t2) ∧ w'.cell? ⟨H2, 3, none⟩ = some (.int .i64 e2) ∧ w'.cell? ⟨H3, 0, none⟩ = some (.int .i64 0) ∧ w'.cell? ⟨H3, 1, none⟩ = some (.bool n3) ∧ w'.cell? ⟨H3, 2, none⟩ = some (.string t3) ∧ w'.cell? ⟨H3, 3, none⟩ = some (.int .i64 e3)) := fun w' hb => ⟨(K0.below hb K0.lt).cell 0, (K0.below hb K0.lt).cell 1, (K0.below hb K0.lt).cell 2, (K0.below hb K0.lt).cell 3, (K1.below hb K1.lt).cell 0, (K1.below hb K1.lt).cell 1, (K1.below hb K1.lt).cell 2, (K1.below hb K1.lt).cell 3, (K2.below hb K2.lt).cell 0, (K2.below hb K2.lt).cell 1, (K2.below hb K2.lt).cell 2, (K2.below hb K2.lt).cell 3, (K3.below hb K3.lt).cell 0, (K3.below hb K3.lt).cell 1, (K3.below hb K3.lt).cell 2, (K3.below hb K3.lt).cell 3⟩
  have HWE := hide hW
  have EH0 := hide eH0
  have EH1 := hide eH1
  have EH2 := hide eH2
  have EH3 := hide eH3
  clear hW K0 eH0 K1 eH1 K2 eH2 K3 eH3
  go_wp2_with fail
  simp only [← HWE.out]
  simp only [← EH3.out]
  simp only [← EH2.out]
  simp only [← EH1.out]
  simp only [← EH0.out]
  refine (MH0.out _).mono ?_
  rintro e v1 ⟨rfl, hb⟩
  have T1 := hide hb
  obtain ⟨p00, p01, p02, p03, p10, p11, p12, p13, p20, p21, p22, p23, p30, p31, p32, p33⟩ := CELLS.out v1 T1.out
  clear hb MH0
  go_wp2_with fail
  refine (MH1.out _).mono ?_
  rintro e v2 ⟨rfl, hb⟩
  have T2 := hide (T1.out.trans (hb.mono T1.out.size))
  clear p00 p01 p02 p03 p10 p11 p12 p13 p20 p21 p22 p23 p30 p31 p32 p33
  obtain ⟨p00, p01, p02, p03, p10, p11, p12, p13, p20, p21, p22, p23, p30, p31, p32, p33⟩ := CELLS.out v2 T2.out
  clear hb MH1 T1
  go_wp2_with fail
  refine (MH2.out _).mono ?_
  rintro e v3 ⟨rfl, hb⟩
  have T3 := hide (T2.out.trans (hb.mono T2.out.size))
  clear p00 p01 p02 p03 p10 p11 p12 p13 p20 p21 p22 p23 p30 p31 p32 p33
  obtain ⟨p00, p01, p02, p03, p10, p11, p12, p13, p20, p21, p22, p23, p30, p31, p32, p33⟩ := CELLS.out v3 T3.out
  clear hb MH2 T2
  go_wp2_with fail
  refine (MH3.out _).mono ?_
  rintro e v4 ⟨rfl, hb⟩
  have T4 := hide (T3.out.trans (hb.mono T3.out.size))
  clear p00 p01 p02 p03 p10 p11 p12 p13 p20 p21 p22 p23 p30 p31 p32 p33
  obtain ⟨p00, p01, p02, p03, p10, p11, p12, p13, p20, p21, p22, p23, p30, p31, p32, p33⟩ := CELLS.out v4 T4.out
  clear hb MH3 T3
  go_wp2_with fail
  refine (OH1.out _).mono ?_
  rintro e v5 ⟨rfl, hb⟩
  have T5 := hide (T4.out.trans (hb.mono T4.out.size))
  clear p00 p01 p02 p03 p10 p11 p12 p13 p20 p21 p22 p23 p30 p31 p32 p33
  obtain ⟨p00, p01, p02, p03, p10, p11, p12, p13, p20, p21, p22, p23, p30, p31, p32, p33⟩ := CELLS.out v5 T5.out
  clear hb OH1 T4
  go_wp2_with fail
  refine (OH2.out _).mono ?_
  rintro e v6 ⟨rfl, hb⟩
  have T6 := hide (T5.out.trans (hb.mono T5.out.size))
  have FIN := hide (HBW.out.trans (T6.out.mono HBW.out.size))
  clear p00 p01 p02 p03 p10 p11 p12 p13 p20 p21 p22 p23 p30 p31 p32 p33
  clear hb OH2 T5
  go_wp2
  go_ret
  exact ⟨rfl, FIN.out⟩

theorem stands_walk (w : World) (htab : Tab w) (a : Nat) (ha : a < 18446744073709551616) (b : Nat) (hb : b < 18446744073709551616) :
    Calls Tryz.prog 7 #[.int .u64 (a : Int), .int .u64 (b : Int)] w fun e w' => e = .returned (.bool true) ∧ Below w.heap.size w w' := by
  have ax := clear_top a ha
  have bx := clear_top b hb
  obtain ⟨x, hx⟩ : ∃ x, x = a % 9223372036854775808 := ⟨_, rfl⟩
  obtain ⟨y, hy⟩ : ∃ y, y = b % 9223372036854775808 := ⟨_, rfl⟩
  rw [← hx] at ax
  rw [← hy] at bx
  by_cases h1 : x < 9218868437227405312
  · by_cases h2 : y < 9218868437227405312
    · rcases Nat.lt_trichotomy x y with h | h | h
      · exact stands_lt a b x y w htab ax bx h1 h2 (by omega)
      · exact stands_eq a b x y w htab ax bx h1 h2 (by omega)
      · exact stands_gt a b x y w htab ax bx h1 h2 (by omega) (by omega)
    · exact stands_inf a b x y w htab ax bx (.inr ⟨by omega, by omega⟩)
  · exact stands_inf a b x y w htab ax bx (.inl (by omega))

end Go.Proofs.YtpiloigpncbccaaGreatDoor
