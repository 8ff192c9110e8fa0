/-
  What math/bits.Len64 does, walked through the library's own text.
  What math/bits.LeadingZeros64 and Mul64 do, walked through the library's own text.
-/
import Derived.Test.YtpiloigpncbccabGreatDoorProg
import Derived.Lib.Strings
import Derived.Lib.Slices
import Derived.Lib.Small
import Derived.Lib.Walk
import Derived.Lib.BitFns
import Derived.Test.YtpiloigpncbccabGreatDoorZQ4
import Derived.Lib.Mul64
import Derived.Laws.Bits64b
namespace Go.Proofs.YtpiloigpncbccabGreatDoor

theorem len_close (x s D : Nat) (hx : x < 18446744073709551616) (hD : D = 2 ^ s) (hs : s = 0 ∨ D ≤ x) (b : Int) (hb : b = ((x / D : Nat) : Int)) (h255 : b ≤ 255) (t : Int) (ht : t = s + Lib.len8 b) :
    t = (Lib.bitLen x : Int) := by
  have hb0 : 0 ≤ b := by rw [hb]; exact Int.natCast_nonneg _
  rw [ht, Lib.len8_of b hb0 h255]
  have e : b.toNat = x / D := by rw [hb]; exact Int.toNat_natCast _
  rw [e]
  rcases hs with h | h
  · subst h; simp [hD]
  · have := Lib.bitLen_shift s x (by omega) (by simpa using hx)
    rw [this, ← hD]; simp

theorem len8_bd (b : Int) (h0 : 0 ≤ b) (h1 : b ≤ 255) : 0 ≤ Lib.len8 b ∧ Lib.len8 b ≤ 8 := by
  rw [Lib.len8_of b h0 h1]
  have := Lib.bitLen_le8' b h0 h1
  omega

theorem pow56 : 72057594037927936 = 2 ^ 56 := by decide +kernel
theorem pow48 : 281474976710656 = 2 ^ 48 := by decide +kernel
theorem pow40 : 1099511627776 = 2 ^ 40 := by decide +kernel
theorem pow32 : 4294967296 = 2 ^ 32 := by decide +kernel
theorem pow24 : 16777216 = 2 ^ 24 := by decide +kernel
theorem pow16 : 65536 = 2 ^ 16 := by decide +kernel
theorem pow8 : 256 = 2 ^ 8 := by decide +kernel
theorem pow0 : 1 = 2 ^ 0 := by decide +kernel

set_option maxHeartbeats 4000000 in
set_option maxRecDepth 100000 in
theorem len64_int (x : Int) (w : World) (h0 : 0 ≤ x) (h1 : x ≤ 18446744073709551615) :
    Calls Tryz.prog 139 #[.int .u64 x] w fun e w' => e = .returned (.int .i64 (Lib.bitLen x.toNat : Int)) ∧ w = w' := by
  go_enter Tryz.func139, Tryz.ntmps139
  go_wp2
  all_goals (go_ret; refine ⟨congrArg Ending.returned (congrArg (Value.int IntKind.i64) ?_), rfl⟩)
  · refine len_close x.toNat 56 72057594037927936 (by omega) pow56 (by omega) (x / 4294967296 / 65536 / 256 % 256) (by omega) (by omega) _ ?_
    have hz := len8_bd (x / 4294967296 / 65536 / 256 % 256) (by omega) (by omega)
    generalize Lib.len8 _ = z at hz ⊢
    omega
  · refine len_close x.toNat 48 281474976710656 (by omega) pow48 (by omega) (x / 4294967296 / 65536 % 256) (by omega) (by omega) _ ?_
    have hz := len8_bd (x / 4294967296 / 65536 % 256) (by omega) (by omega)
    generalize Lib.len8 _ = z at hz ⊢
    omega
  · refine len_close x.toNat 40 1099511627776 (by omega) pow40 (by omega) (x / 4294967296 / 256 % 256) (by omega) (by omega) _ ?_
    have hz := len8_bd (x / 4294967296 / 256 % 256) (by omega) (by omega)
    generalize Lib.len8 _ = z at hz ⊢
    omega
  · refine len_close x.toNat 32 4294967296 (by omega) pow32 (by omega) (x / 4294967296 % 256) (by omega) (by omega) _ ?_
    have hz := len8_bd (x / 4294967296 % 256) (by omega) (by omega)
    generalize Lib.len8 _ = z at hz ⊢
    omega
  · refine len_close x.toNat 24 16777216 (by omega) pow24 (by omega) (x / 65536 / 256 % 256) (by omega) (by omega) _ ?_
    have hz := len8_bd (x / 65536 / 256 % 256) (by omega) (by omega)
    generalize Lib.len8 _ = z at hz ⊢
    omega
  · refine len_close x.toNat 16 65536 (by omega) pow16 (by omega) (x / 65536 % 256) (by omega) (by omega) _ ?_
    have hz := len8_bd (x / 65536 % 256) (by omega) (by omega)
    generalize Lib.len8 _ = z at hz ⊢
    omega
  · refine len_close x.toNat 8 256 (by omega) pow8 (by omega) (x / 256 % 256) (by omega) (by omega) _ ?_
    have hz := len8_bd (x / 256 % 256) (by omega) (by omega)
    generalize Lib.len8 _ = z at hz ⊢
    omega
  · refine len_close x.toNat 0 1 (by omega) pow0 (by omega) (x % 256) (by omega) (by omega) _ ?_
    have hz := len8_bd (x % 256) (by omega) (by omega)
    generalize Lib.len8 _ = z at hz ⊢
    omega

theorem len64 (x : Nat) (w : World) (h1 : x < 18446744073709551616) :
    Calls Tryz.prog 139 #[.int .u64 (x : Int)] w fun e w' => e = .returned (.int .i64 (Lib.bitLen x : Int)) ∧ w = w' := by
  have := len64_int (x : Int) w (by omega) (by omega)
  rwa [Int.toNat_natCast] at this

end Go.Proofs.YtpiloigpncbccabGreatDoor

namespace Go.Proofs.YtpiloigpncbccabGreatDoor
open Go.RowKit

set_option maxHeartbeats 400000 in
theorem lead64 (x : Nat) (w : World) (h1 : x < 18446744073709551616) :
    Calls Tryz.prog 115 #[.int .u64 (x : Int)] w fun e w' => e = .returned (.int .i64 ((64 - Lib.bitLen x : Nat) : Int)) ∧ w = w' := by
  have hle := Lib.bitLen_le x 64 (by omega) (by simpa using h1)
  obtain ⟨n, hn⟩ : ∃ n, n = Lib.bitLen x := ⟨_, rfl⟩
  rw [← hn] at hle ⊢
  have HN : Hid (n = Lib.bitLen x) := hn
  clear hn
  go_enter Tryz.func115, Tryz.ntmps115
  go_wp2_with fail
  refine (len64 x _ h1).mono ?_
  rintro e w' ⟨rfl, rfl⟩
  rw [← HN.out]
  go_wp2
  go_ret
  exact ⟨congrArg Ending.returned (congrArg (Value.int IntKind.i64) (by omega)), rfl⟩

theorem and32 (a : Nat) (ha : a < 18446744073709551616) : bits .and .u64 (a : Int) 4294967295 = ((a % 4294967296 : Nat) : Int) := by
  have h := bits_and_u64_nat a 4294967295 ha (by omega)
  rw [Nat.and_two_pow_sub_one_eq_mod a 32] at h
  exact h
theorem div32 (a : Nat) : (a : Int) / 4294967296 = ((a / 4294967296 : Nat) : Int) := by omega
theorem natMul (a b : Nat) : (a : Int) * (b : Int) = ((a * b : Nat) : Int) := (Int.natCast_mul a b).symm
theorem natAdd (a b : Nat) : (a : Int) + (b : Int) = ((a + b : Nat) : Int) := (Int.natCast_add a b).symm
theorem wrapLt (a : Nat) (ha : a < 18446744073709551616) : IntKind.u64.wrap (a : Int) = (a : Int) := by rw [IntKind.wrap_u64]; omega
theorem wrapMod (a : Nat) : IntKind.u64.wrap (a : Int) = ((a % 18446744073709551616 : Nat) : Int) := by rw [IntKind.wrap_u64]; omega

set_option maxHeartbeats 1000000 in
theorem mul64 (x y : Nat) (w : World) (hx : x < B64) (hy : y < B64) :
    Calls Tryz.prog 129 #[.int .u64 (x : Int), .int .u64 (y : Int)] w fun e w' => e = .returned (.tuple #[.int .u64 ((x * y / B64 : Nat) : Int), .int .u64 ((x * y % B64 : Nat) : Int)]) ∧ w = w' := by
  unfold B64 at *
  obtain ⟨bd, bt, bw, hhi⟩ := Lib.mul64_hi x y hx hy
  have ba := Lib.half_mul_le (a := x / 4294967296) (b := y / 4294967296) (by omega) (by omega)
  have bb := Lib.half_mul_le (a := x / 4294967296) (b := y % 4294967296) (by omega) (by omega)
  have bc := Lib.half_mul_le (a := x % 4294967296) (b := y / 4294967296) (by omega) (by omega)
  have bA : x / 4294967296 * (y / 4294967296) < 18446744073709551616 := by omega
  have bB : x / 4294967296 * (y % 4294967296) < 18446744073709551616 := by omega
  have bC : x % 4294967296 * (y / 4294967296) < 18446744073709551616 := by omega
  obtain ⟨t, ht⟩ : ∃ t, t = x / 4294967296 * (y % 4294967296) + x % 4294967296 * (y % 4294967296) / 4294967296 := ⟨_, rfl⟩
  have bt' : t < 18446744073709551616 := by rw [ht]; exact bt
  obtain ⟨u, hu⟩ : ∃ u, u = t % 4294967296 + x % 4294967296 * (y / 4294967296) := ⟨_, rfl⟩
  have bu : u < 18446744073709551616 := by rw [hu, ht]; exact bw
  have b1 : x / 4294967296 * (y / 4294967296) + t / 4294967296 < 18446744073709551616 := by omega
  have b2 : x / 4294967296 * (y / 4294967296) + t / 4294967296 + u / 4294967296 < 18446744073709551616 := by omega
  rw [← ht, ← hu] at hhi
  have HH : Hid (x / 4294967296 * (y / 4294967296) + t / 4294967296 + u / 4294967296 = x * y / 18446744073709551616) := hhi
  have HT : Hid (t = x / 4294967296 * (y % 4294967296) + x % 4294967296 * (y % 4294967296) / 4294967296) := ht
  have HU : Hid (u = t % 4294967296 + x % 4294967296 * (y / 4294967296)) := hu
  have BD : Hid (x % 4294967296 * (y % 4294967296) < 18446744073709551616) := bd
  have b3 : x * y / 18446744073709551616 < 18446744073709551616 := by rw [← HH.out]; exact b2
  clear ht hu hhi bt bw bd ba bb bc
  go_enter Tryz.func129, Tryz.ntmps129
  go_wp2
  go_ret2
  refine ⟨?_, rfl⟩
  simp only [and32 x hx, and32 y hy, div32, natMul, wrapLt _ BD.out, wrapLt _ bB, natAdd, ← HT.out, wrapLt _ bt', and32 _ bt', wrapLt _ bC, ← HU.out, wrapLt _ bu, wrapLt _ bA, wrapLt _ b1, HH.out, wrapLt _ b3, wrapMod]
  rfl

end Go.Proofs.YtpiloigpncbccabGreatDoor
