/-
  The walk of NearestBack.
-/
import Derived.Test.YtlhekeifffofjaaGreatDoorZB6
namespace Go.Proofs.YtlhekeifffofjaaGreatDoor
open Go.RowKit

theorem clear64 (a : Nat) (ha : a < 18446744073709551616) : bits .andNot .u64 (a : Int) 9223372036854775808 = ((a % 9223372036854775808 : Nat) : Int) := by
  have h := u64_andNot_nat a 9223372036854775808 ha (by omega)
  rw [show (18446744073709551615 - 9223372036854775808 : Nat) = 2 ^ 63 - 1 by decide, Nat.and_two_pow_sub_one_eq_mod, show (2 : Nat) ^ 63 = 9223372036854775808 by decide] at h
  exact h

theorem clear32 (a : Nat) (ha : a < 4294967296) : bits .andNot .u32 (a : Int) 2147483648 = ((a % 2147483648 : Nat) : Int) := by
  have h := u32_andNot_nat a 2147483648 ha (by omega)
  rw [show (4294967295 - 2147483648 : Nat) = 2 ^ 31 - 1 by decide, Nat.and_two_pow_sub_one_eq_mod, show (2 : Nat) ^ 31 = 2147483648 by decide] at h
  exact h

set_option maxRecDepth 100000 in
set_option maxHeartbeats 2000000 in
theorem back_nn (w : World) (htab : Tab w) (a : Nat) (ha : a < 18446744073709551616) (b : Nat) (hb : b < 4294967296) (x y : Nat) (cx : bits .andNot .u64 (a : Int) 9223372036854775808 = (x : Int)) (cy : bits .andNot .u32 (b : Int) 2147483648 = (y : Int)) (hx : 9218868437227405312 < (x : Int)) (hy : 2139095040 < (y : Int)) (ea : same64 a = 9221120237041090561) (eb : same32 b = 2143289345) :
    Calls Tryz.prog 6 #[.int .u64 (a : Int), .int .u32 (b : Int)] w fun e w' => e = .returned (.bool true) ∧ Below w.heap.size w w' := by
  have O1 := hide (fun W => of64_any a W ha)
  have E1 := hide (fun W => exact64_any a W ha)
  have O2 := hide (fun W => of32_any b W hb)
  have E2 := hide (fun W => exact32_any b W hb)
  have T1 := hide (fun W => to64_dec (of64D a) W (may_of64 a))
  have T2 := hide (fun W => to64_dec (ex64D a) W (may_ex64 a))
  have T3 := hide (fun W => to32_dec (of32D b) W (may_of32 b))
  have T4 := hide (fun W => to32_dec (ex32D b) W (may_ex32 b))
  rw [back64_of a ha, ea] at T1
  rw [back64_ex a ha, ea] at T2
  rw [back32_of b hb, eb] at T3
  rw [back32_ex b hb, eb] at T4
  have AW := hide (fun W => nawake_any W)
  have HT := hide htab
  clear htab ea eb
  go_enter Tryz.func6, Tryz.ntmps6
  go_wp2_with fail
  refine (O1.out _ HT.out).mono ?_
  rintro e w1 ⟨rfl, hb1⟩
  have HB1 := hide hb1
  clear hb1 O1
  go_wp2_with fail
  refine (T1.out _).mono ?_
  rintro e w2 ⟨rfl, hb2⟩
  have HB2 := hide (HB1.out.trans (hb2.mono HB1.out.size))
  clear hb2 HB1 T1
  go_wp2_with fail
  refine (E1.out _ (HT.out.below HB2.out)).mono ?_
  rintro e w3 ⟨rfl, hb3⟩
  have HB3 := hide (HB2.out.trans (hb3.mono HB2.out.size))
  clear hb3 HB2 E1
  go_wp2_with fail
  refine (T2.out _).mono ?_
  rintro e w4 ⟨rfl, hb4⟩
  have HB4 := hide (HB3.out.trans (hb4.mono HB3.out.size))
  clear hb4 HB3 T2
  go_wp2_with fail
  refine (O2.out _ (HT.out.below HB4.out)).mono ?_
  rintro e w5 ⟨rfl, hb5⟩
  have HB5 := hide (HB4.out.trans (hb5.mono HB4.out.size))
  clear hb5 HB4 O2
  go_wp2_with fail
  refine (T3.out _).mono ?_
  rintro e w6 ⟨rfl, hb6⟩
  have HB6 := hide (HB5.out.trans (hb6.mono HB5.out.size))
  clear hb6 HB5 T3
  go_wp2_with fail
  refine (E2.out _ (HT.out.below HB6.out)).mono ?_
  rintro e w7 ⟨rfl, hb7⟩
  have HB7 := hide (HB6.out.trans (hb7.mono HB6.out.size))
  clear hb7 HB6 E2
  go_wp2_with fail
  refine (T4.out _).mono ?_
  rintro e w8 ⟨rfl, hb8⟩
  have HB8 := hide (HB7.out.trans (hb8.mono HB7.out.size))
  clear hb8 HB7 T4
  go_wp2_with fail
  refine (AW.out _ (HT.out.below HB8.out)).mono ?_
  rintro e w9 ⟨rfl, hb9⟩
  have HB9 := hide (HB8.out.trans (hb9.mono HB8.out.size))
  clear hb9 HB8 AW
  go_wp2
  go_ret
  exact ⟨rfl, HB9.out⟩

set_option maxRecDepth 100000 in
set_option maxHeartbeats 2000000 in
theorem back_nf (w : World) (htab : Tab w) (a : Nat) (ha : a < 18446744073709551616) (b : Nat) (hb : b < 4294967296) (x y : Nat) (cx : bits .andNot .u64 (a : Int) 9223372036854775808 = (x : Int)) (cy : bits .andNot .u32 (b : Int) 2147483648 = (y : Int)) (hx : 9218868437227405312 < (x : Int)) (hy : ¬ 2139095040 < (y : Int)) (ea : same64 a = 9221120237041090561) (eb : same32 b = b) :
    Calls Tryz.prog 6 #[.int .u64 (a : Int), .int .u32 (b : Int)] w fun e w' => e = .returned (.bool true) ∧ Below w.heap.size w w' := by
  have O1 := hide (fun W => of64_any a W ha)
  have E1 := hide (fun W => exact64_any a W ha)
  have O2 := hide (fun W => of32_any b W hb)
  have E2 := hide (fun W => exact32_any b W hb)
  have T1 := hide (fun W => to64_dec (of64D a) W (may_of64 a))
  have T2 := hide (fun W => to64_dec (ex64D a) W (may_ex64 a))
  have T3 := hide (fun W => to32_dec (of32D b) W (may_of32 b))
  have T4 := hide (fun W => to32_dec (ex32D b) W (may_ex32 b))
  rw [back64_of a ha, ea] at T1
  rw [back64_ex a ha, ea] at T2
  rw [back32_of b hb, eb] at T3
  rw [back32_ex b hb, eb] at T4
  have AW := hide (fun W => nawake_any W)
  have HT := hide htab
  clear htab ea eb
  go_enter Tryz.func6, Tryz.ntmps6
  go_wp2_with fail
  refine (O1.out _ HT.out).mono ?_
  rintro e w1 ⟨rfl, hb1⟩
  have HB1 := hide hb1
  clear hb1 O1
  go_wp2_with fail
  refine (T1.out _).mono ?_
  rintro e w2 ⟨rfl, hb2⟩
  have HB2 := hide (HB1.out.trans (hb2.mono HB1.out.size))
  clear hb2 HB1 T1
  go_wp2_with fail
  refine (E1.out _ (HT.out.below HB2.out)).mono ?_
  rintro e w3 ⟨rfl, hb3⟩
  have HB3 := hide (HB2.out.trans (hb3.mono HB2.out.size))
  clear hb3 HB2 E1
  go_wp2_with fail
  refine (T2.out _).mono ?_
  rintro e w4 ⟨rfl, hb4⟩
  have HB4 := hide (HB3.out.trans (hb4.mono HB3.out.size))
  clear hb4 HB3 T2
  go_wp2_with fail
  refine (O2.out _ (HT.out.below HB4.out)).mono ?_
  rintro e w5 ⟨rfl, hb5⟩
  have HB5 := hide (HB4.out.trans (hb5.mono HB4.out.size))
  clear hb5 HB4 O2
  go_wp2_with fail
  refine (T3.out _).mono ?_
  rintro e w6 ⟨rfl, hb6⟩
  have HB6 := hide (HB5.out.trans (hb6.mono HB5.out.size))
  clear hb6 HB5 T3
  go_wp2_with fail
  refine (E2.out _ (HT.out.below HB6.out)).mono ?_
  rintro e w7 ⟨rfl, hb7⟩
  have HB7 := hide (HB6.out.trans (hb7.mono HB6.out.size))
  clear hb7 HB6 E2
  go_wp2_with fail
  refine (T4.out _).mono ?_
  rintro e w8 ⟨rfl, hb8⟩
  have HB8 := hide (HB7.out.trans (hb8.mono HB7.out.size))
  clear hb8 HB7 T4
  go_wp2_with fail
  refine (AW.out _ (HT.out.below HB8.out)).mono ?_
  rintro e w9 ⟨rfl, hb9⟩
  have HB9 := hide (HB8.out.trans (hb9.mono HB8.out.size))
  clear hb9 HB8 AW
  go_wp2
  go_ret
  exact ⟨rfl, HB9.out⟩

set_option maxRecDepth 100000 in
set_option maxHeartbeats 2000000 in
theorem back_fn (w : World) (htab : Tab w) (a : Nat) (ha : a < 18446744073709551616) (b : Nat) (hb : b < 4294967296) (x y : Nat) (cx : bits .andNot .u64 (a : Int) 9223372036854775808 = (x : Int)) (cy : bits .andNot .u32 (b : Int) 2147483648 = (y : Int)) (hx : ¬ 9218868437227405312 < (x : Int)) (hy : 2139095040 < (y : Int)) (ea : same64 a = a) (eb : same32 b = 2143289345) :
    Calls Tryz.prog 6 #[.int .u64 (a : Int), .int .u32 (b : Int)] w fun e w' => e = .returned (.bool true) ∧ Below w.heap.size w w' := by
  have O1 := hide (fun W => of64_any a W ha)
  have E1 := hide (fun W => exact64_any a W ha)
  have O2 := hide (fun W => of32_any b W hb)
  have E2 := hide (fun W => exact32_any b W hb)
  have T1 := hide (fun W => to64_dec (of64D a) W (may_of64 a))
  have T2 := hide (fun W => to64_dec (ex64D a) W (may_ex64 a))
  have T3 := hide (fun W => to32_dec (of32D b) W (may_of32 b))
  have T4 := hide (fun W => to32_dec (ex32D b) W (may_ex32 b))
  rw [back64_of a ha, ea] at T1
  rw [back64_ex a ha, ea] at T2
  rw [back32_of b hb, eb] at T3
  rw [back32_ex b hb, eb] at T4
  have AW := hide (fun W => nawake_any W)
  have HT := hide htab
  clear htab ea eb
  go_enter Tryz.func6, Tryz.ntmps6
  go_wp2_with fail
  refine (O1.out _ HT.out).mono ?_
  rintro e w1 ⟨rfl, hb1⟩
  have HB1 := hide hb1
  clear hb1 O1
  go_wp2_with fail
  refine (T1.out _).mono ?_
  rintro e w2 ⟨rfl, hb2⟩
  have HB2 := hide (HB1.out.trans (hb2.mono HB1.out.size))
  clear hb2 HB1 T1
  go_wp2_with fail
  refine (E1.out _ (HT.out.below HB2.out)).mono ?_
  rintro e w3 ⟨rfl, hb3⟩
  have HB3 := hide (HB2.out.trans (hb3.mono HB2.out.size))
  clear hb3 HB2 E1
  go_wp2_with fail
  refine (T2.out _).mono ?_
  rintro e w4 ⟨rfl, hb4⟩
  have HB4 := hide (HB3.out.trans (hb4.mono HB3.out.size))
  clear hb4 HB3 T2
  go_wp2_with fail
  refine (O2.out _ (HT.out.below HB4.out)).mono ?_
  rintro e w5 ⟨rfl, hb5⟩
  have HB5 := hide (HB4.out.trans (hb5.mono HB4.out.size))
  clear hb5 HB4 O2
  go_wp2_with fail
  refine (T3.out _).mono ?_
  rintro e w6 ⟨rfl, hb6⟩
  have HB6 := hide (HB5.out.trans (hb6.mono HB5.out.size))
  clear hb6 HB5 T3
  go_wp2_with fail
  refine (E2.out _ (HT.out.below HB6.out)).mono ?_
  rintro e w7 ⟨rfl, hb7⟩
  have HB7 := hide (HB6.out.trans (hb7.mono HB6.out.size))
  clear hb7 HB6 E2
  go_wp2_with fail
  refine (T4.out _).mono ?_
  rintro e w8 ⟨rfl, hb8⟩
  have HB8 := hide (HB7.out.trans (hb8.mono HB7.out.size))
  clear hb8 HB7 T4
  go_wp2_with fail
  refine (AW.out _ (HT.out.below HB8.out)).mono ?_
  rintro e w9 ⟨rfl, hb9⟩
  have HB9 := hide (HB8.out.trans (hb9.mono HB8.out.size))
  clear hb9 HB8 AW
  go_wp2
  go_ret
  exact ⟨rfl, HB9.out⟩

set_option maxRecDepth 100000 in
set_option maxHeartbeats 2000000 in
theorem back_ff (w : World) (htab : Tab w) (a : Nat) (ha : a < 18446744073709551616) (b : Nat) (hb : b < 4294967296) (x y : Nat) (cx : bits .andNot .u64 (a : Int) 9223372036854775808 = (x : Int)) (cy : bits .andNot .u32 (b : Int) 2147483648 = (y : Int)) (hx : ¬ 9218868437227405312 < (x : Int)) (hy : ¬ 2139095040 < (y : Int)) (ea : same64 a = a) (eb : same32 b = b) :
    Calls Tryz.prog 6 #[.int .u64 (a : Int), .int .u32 (b : Int)] w fun e w' => e = .returned (.bool true) ∧ Below w.heap.size w w' := by
  have O1 := hide (fun W => of64_any a W ha)
  have E1 := hide (fun W => exact64_any a W ha)
  have O2 := hide (fun W => of32_any b W hb)
  have E2 := hide (fun W => exact32_any b W hb)
  have T1 := hide (fun W => to64_dec (of64D a) W (may_of64 a))
  have T2 := hide (fun W => to64_dec (ex64D a) W (may_ex64 a))
  have T3 := hide (fun W => to32_dec (of32D b) W (may_of32 b))
  have T4 := hide (fun W => to32_dec (ex32D b) W (may_ex32 b))
  rw [back64_of a ha, ea] at T1
  rw [back64_ex a ha, ea] at T2
  rw [back32_of b hb, eb] at T3
  rw [back32_ex b hb, eb] at T4
  have AW := hide (fun W => nawake_any W)
  have HT := hide htab
  clear htab ea eb
  go_enter Tryz.func6, Tryz.ntmps6
  go_wp2_with fail
  refine (O1.out _ HT.out).mono ?_
  rintro e w1 ⟨rfl, hb1⟩
  have HB1 := hide hb1
  clear hb1 O1
  go_wp2_with fail
  refine (T1.out _).mono ?_
  rintro e w2 ⟨rfl, hb2⟩
  have HB2 := hide (HB1.out.trans (hb2.mono HB1.out.size))
  clear hb2 HB1 T1
  go_wp2_with fail
  refine (E1.out _ (HT.out.below HB2.out)).mono ?_
  rintro e w3 ⟨rfl, hb3⟩
  have HB3 := hide (HB2.out.trans (hb3.mono HB2.out.size))
  clear hb3 HB2 E1
  go_wp2_with fail
  refine (T2.out _).mono ?_
  rintro e w4 ⟨rfl, hb4⟩
  have HB4 := hide (HB3.out.trans (hb4.mono HB3.out.size))
  clear hb4 HB3 T2
  go_wp2_with fail
  refine (O2.out _ (HT.out.below HB4.out)).mono ?_
  rintro e w5 ⟨rfl, hb5⟩
  have HB5 := hide (HB4.out.trans (hb5.mono HB4.out.size))
  clear hb5 HB4 O2
  go_wp2_with fail
  refine (T3.out _).mono ?_
  rintro e w6 ⟨rfl, hb6⟩
  have HB6 := hide (HB5.out.trans (hb6.mono HB5.out.size))
  clear hb6 HB5 T3
  go_wp2_with fail
  refine (E2.out _ (HT.out.below HB6.out)).mono ?_
  rintro e w7 ⟨rfl, hb7⟩
  have HB7 := hide (HB6.out.trans (hb7.mono HB6.out.size))
  clear hb7 HB6 E2
  go_wp2_with fail
  refine (T4.out _).mono ?_
  rintro e w8 ⟨rfl, hb8⟩
  have HB8 := hide (HB7.out.trans (hb8.mono HB7.out.size))
  clear hb8 HB7 T4
  go_wp2_with fail
  refine (AW.out _ (HT.out.below HB8.out)).mono ?_
  rintro e w9 ⟨rfl, hb9⟩
  have HB9 := hide (HB8.out.trans (hb9.mono HB8.out.size))
  clear hb9 HB8 AW
  go_wp2
  go_ret
  exact ⟨rfl, HB9.out⟩

theorem back_walk (w : World) (htab : Tab w) (a : Nat) (ha : a < 18446744073709551616) (b : Nat) (hb : b < 4294967296) :
    Calls Tryz.prog 6 #[.int .u64 (a : Int), .int .u32 (b : Int)] w fun e w' => e = .returned (.bool true) ∧ Below w.heap.size w w' := by
  by_cases h1 : 9218868437227405312 < a % 9223372036854775808
  · by_cases h2 : 2139095040 < b % 2147483648
    · exact back_nn w htab a ha b hb _ _ (clear64 a ha) (clear32 b hb) (by omega) (by omega) (if_pos h1) (if_pos h2)
    · exact back_nf w htab a ha b hb _ _ (clear64 a ha) (clear32 b hb) (by omega) (by omega) (if_pos h1) (if_neg h2)
  · by_cases h2 : 2139095040 < b % 2147483648
    · exact back_fn w htab a ha b hb _ _ (clear64 a ha) (clear32 b hb) (by omega) (by omega) (if_neg h1) (if_pos h2)
    · exact back_ff w htab a ha b hb _ _ (clear64 a ha) (clear32 b hb) (by omega) (by omega) (if_neg h1) (if_neg h2)

end Go.Proofs.YtlhekeifffofjaaGreatDoor
