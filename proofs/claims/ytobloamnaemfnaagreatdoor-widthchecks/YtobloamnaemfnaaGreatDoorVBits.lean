/-
  What math/bits.LeadingZeros64 and Mul64 do, walked through the library's own text.
-/
import Derived.Test.YtobloamnaemfnaaGreatDoorVOwn
import Derived.Test.YtobloamnaemfnaaGreatDoorVLen
import Derived.Lib.Mul64
import Derived.Laws.Bits64b
namespace Go.Proofs.YtobloamnaemfnaaGreatDoor
open Go.RowKit

set_option maxHeartbeats 400000 in
theorem lead64 (x : Nat) (w : World) (h1 : x < 18446744073709551616) :
    Calls Tryz.prog 245 #[.int .u64 (x : Int)] w fun e w' => e = .returned (.int .i64 ((64 - Lib.bitLen x : Nat) : Int)) ∧ w = w' := by
  have hle := Lib.bitLen_le x 64 (by omega) (by simpa using h1)
  obtain ⟨n, hn⟩ : ∃ n, n = Lib.bitLen x := ⟨_, rfl⟩
  rw [← hn] at hle ⊢
  have HN : Hid (n = Lib.bitLen x) := hn
  clear hn
  go_enter Tryz.func245, Tryz.ntmps245
  go_wp2_with fail
  refine (len64 x _ h1).mono ?_
  rintro e w' ⟨rfl, rfl⟩
  rw [← HN.out]
  go_wp2
  go_ret
  exact ⟨congrArg Ending.returned (congrArg (Value.int IntKind.i64) (by omega)), rfl⟩

theorem and32 (a : Nat) (ha : a < 18446744073709551616) : bits .and .u64 (a : Int) 4294967295 = ((a % 4294967296 : Nat) : Int) := by
  have h := bits_and_u64_nat a 4294967295 ha (by omega)
  rw [Nat.and_two_pow_sub_one_eq_mod a 32] at h
  exact h
theorem div32 (a : Nat) : (a : Int) / 4294967296 = ((a / 4294967296 : Nat) : Int) := by omega
theorem natMul (a b : Nat) : (a : Int) * (b : Int) = ((a * b : Nat) : Int) := (Int.natCast_mul a b).symm
theorem natAdd (a b : Nat) : (a : Int) + (b : Int) = ((a + b : Nat) : Int) := (Int.natCast_add a b).symm
theorem wrapLt (a : Nat) (ha : a < 18446744073709551616) : IntKind.u64.wrap (a : Int) = (a : Int) := by rw [IntKind.wrap_u64]; omega
theorem wrapMod (a : Nat) : IntKind.u64.wrap (a : Int) = ((a % 18446744073709551616 : Nat) : Int) := by rw [IntKind.wrap_u64]; omega

set_option maxHeartbeats 1000000 in
theorem mul64 (x y : Nat) (w : World) (hx : x < B64) (hy : y < B64) :
    Calls Tryz.prog 200 #[.int .u64 (x : Int), .int .u64 (y : Int)] w fun e w' => e = .returned (.tuple #[.int .u64 ((x * y / B64 : Nat) : Int), .int .u64 ((x * y % B64 : Nat) : Int)]) ∧ w = w' := by
  unfold B64 at *
  obtain ⟨bd, bt, bw, hhi⟩ := Lib.mul64_hi x y hx hy
  have ba := Lib.half_mul_le (a := x / 4294967296) (b := y / 4294967296) (by omega) (by omega)
  have bb := Lib.half_mul_le (a := x / 4294967296) (b := y % 4294967296) (by omega) (by omega)
  have bc := Lib.half_mul_le (a := x % 4294967296) (b := y / 4294967296) (by omega) (by omega)
  have bA : x / 4294967296 * (y / 4294967296) < 18446744073709551616 := by omega
  have bB : x / 4294967296 * (y % 4294967296) < 18446744073709551616 := by omega
  have bC : x % 4294967296 * (y / 4294967296) < 18446744073709551616 := by omega
  obtain ⟨t, ht⟩ : ∃ t, t = x / 4294967296 * (y % 4294967296) + x % 4294967296 * (y % 4294967296) / 4294967296 := ⟨_, rfl⟩
  have bt' : t < 18446744073709551616 := by rw [ht]; exact bt
  obtain ⟨u, hu⟩ : ∃ u, u = t % 4294967296 + x % 4294967296 * (y / 4294967296) := ⟨_, rfl⟩
  have bu : u < 18446744073709551616 := by rw [hu, ht]; exact bw
  have b1 : x / 4294967296 * (y / 4294967296) + t / 4294967296 < 18446744073709551616 := by omega
  have b2 : x / 4294967296 * (y / 4294967296) + t / 4294967296 + u / 4294967296 < 18446744073709551616 := by omega
  rw [← ht, ← hu] at hhi
  have HH : Hid (x / 4294967296 * (y / 4294967296) + t / 4294967296 + u / 4294967296 = x * y / 18446744073709551616) := hhi
  have HT : Hid (t = x / 4294967296 * (y % 4294967296) + x % 4294967296 * (y % 4294967296) / 4294967296) := ht
  have HU : Hid (u = t % 4294967296 + x % 4294967296 * (y / 4294967296)) := hu
  have BD : Hid (x % 4294967296 * (y % 4294967296) < 18446744073709551616) := bd
  have b3 : x * y / 18446744073709551616 < 18446744073709551616 := by rw [← HH.out]; exact b2
  clear ht hu hhi bt bw bd ba bb bc
  go_enter Tryz.func200, Tryz.ntmps200
  go_wp2
  go_ret2
  refine ⟨?_, rfl⟩
  simp only [and32 x hx, and32 y hy, div32, natMul, wrapLt _ BD.out, wrapLt _ bB, natAdd, ← HT.out, wrapLt _ bt', and32 _ bt', wrapLt _ bC, ← HU.out, wrapLt _ bu, wrapLt _ bA, wrapLt _ b1, HH.out, wrapLt _ b3, wrapMod]
  rfl

end Go.Proofs.YtobloamnaemfnaaGreatDoor
