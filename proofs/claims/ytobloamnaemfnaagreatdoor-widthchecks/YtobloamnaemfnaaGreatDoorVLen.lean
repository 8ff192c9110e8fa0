/-
  What math/bits.Len64 does, walked through the library's own text.
-/
import Derived.Test.YtobloamnaemfnaaGreatDoorProg
import Derived.Lib.Strings
import Derived.Lib.Slices
import Derived.Lib.Small
import Derived.Lib.Walk
import Derived.Lib.BitFns
namespace Go.Proofs.YtobloamnaemfnaaGreatDoor

theorem len_close (x s D : Nat) (hx : x < 18446744073709551616) (hD : D = 2 ^ s) (hs : s = 0 ∨ D ≤ x) (b : Int) (hb : b = ((x / D : Nat) : Int)) (h255 : b ≤ 255) (t : Int) (ht : t = s + Lib.len8 b) :
    t = (Lib.bitLen x : Int) := by
  have hb0 : 0 ≤ b := by rw [hb]; exact Int.natCast_nonneg _
  rw [ht, Lib.len8_of b hb0 h255]
  have e : b.toNat = x / D := by rw [hb]; exact Int.toNat_natCast _
  rw [e]
  rcases hs with h | h
  · subst h; simp [hD]
  · have := Lib.bitLen_shift s x (by omega) (by simpa using hx)
    rw [this, ← hD]; simp

theorem len8_bd (b : Int) (h0 : 0 ≤ b) (h1 : b ≤ 255) : 0 ≤ Lib.len8 b ∧ Lib.len8 b ≤ 8 := by
  rw [Lib.len8_of b h0 h1]
  have := Lib.bitLen_le8' b h0 h1
  omega

theorem pow56 : 72057594037927936 = 2 ^ 56 := by decide +kernel
theorem pow48 : 281474976710656 = 2 ^ 48 := by decide +kernel
theorem pow40 : 1099511627776 = 2 ^ 40 := by decide +kernel
theorem pow32 : 4294967296 = 2 ^ 32 := by decide +kernel
theorem pow24 : 16777216 = 2 ^ 24 := by decide +kernel
theorem pow16 : 65536 = 2 ^ 16 := by decide +kernel
theorem pow8 : 256 = 2 ^ 8 := by decide +kernel
theorem pow0 : 1 = 2 ^ 0 := by decide +kernel

set_option maxHeartbeats 4000000 in
set_option maxRecDepth 100000 in
theorem len64_int (x : Int) (w : World) (h0 : 0 ≤ x) (h1 : x ≤ 18446744073709551615) :
    Calls Tryz.prog 212 #[.int .u64 x] w fun e w' => e = .returned (.int .i64 (Lib.bitLen x.toNat : Int)) ∧ w = w' := by
  go_enter Tryz.func212, Tryz.ntmps212
  go_wp2
  all_goals (go_ret; refine ⟨congrArg Ending.returned (congrArg (Value.int IntKind.i64) ?_), rfl⟩)
  · refine len_close x.toNat 56 72057594037927936 (by omega) pow56 (by omega) (x / 4294967296 / 65536 / 256 % 256) (by omega) (by omega) _ ?_
    have hz := len8_bd (x / 4294967296 / 65536 / 256 % 256) (by omega) (by omega)
    generalize Lib.len8 _ = z at hz ⊢
    omega
  · refine len_close x.toNat 48 281474976710656 (by omega) pow48 (by omega) (x / 4294967296 / 65536 % 256) (by omega) (by omega) _ ?_
    have hz := len8_bd (x / 4294967296 / 65536 % 256) (by omega) (by omega)
    generalize Lib.len8 _ = z at hz ⊢
    omega
  · refine len_close x.toNat 40 1099511627776 (by omega) pow40 (by omega) (x / 4294967296 / 256 % 256) (by omega) (by omega) _ ?_
    have hz := len8_bd (x / 4294967296 / 256 % 256) (by omega) (by omega)
    generalize Lib.len8 _ = z at hz ⊢
    omega
  · refine len_close x.toNat 32 4294967296 (by omega) pow32 (by omega) (x / 4294967296 % 256) (by omega) (by omega) _ ?_
    have hz := len8_bd (x / 4294967296 % 256) (by omega) (by omega)
    generalize Lib.len8 _ = z at hz ⊢
    omega
  · refine len_close x.toNat 24 16777216 (by omega) pow24 (by omega) (x / 65536 / 256 % 256) (by omega) (by omega) _ ?_
    have hz := len8_bd (x / 65536 / 256 % 256) (by omega) (by omega)
    generalize Lib.len8 _ = z at hz ⊢
    omega
  · refine len_close x.toNat 16 65536 (by omega) pow16 (by omega) (x / 65536 % 256) (by omega) (by omega) _ ?_
    have hz := len8_bd (x / 65536 % 256) (by omega) (by omega)
    generalize Lib.len8 _ = z at hz ⊢
    omega
  · refine len_close x.toNat 8 256 (by omega) pow8 (by omega) (x / 256 % 256) (by omega) (by omega) _ ?_
    have hz := len8_bd (x / 256 % 256) (by omega) (by omega)
    generalize Lib.len8 _ = z at hz ⊢
    omega
  · refine len_close x.toNat 0 1 (by omega) pow0 (by omega) (x % 256) (by omega) (by omega) _ ?_
    have hz := len8_bd (x % 256) (by omega) (by omega)
    generalize Lib.len8 _ = z at hz ⊢
    omega

theorem len64 (x : Nat) (w : World) (h1 : x < 18446744073709551616) :
    Calls Tryz.prog 212 #[.int .u64 (x : Int)] w fun e w' => e = .returned (.int .i64 (Lib.bitLen x : Int)) ∧ w = w' := by
  have := len64_int (x : Int) w (by omega) (by omega)
  rwa [Int.toNat_natCast] at this

end Go.Proofs.YtobloamnaemfnaaGreatDoor
