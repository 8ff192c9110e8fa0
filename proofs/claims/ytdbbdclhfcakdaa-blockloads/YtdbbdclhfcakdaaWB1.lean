/-
  Plain mathematics: decimal digits, the numbers that they are, and texts behind texts.
  Plain mathematics of chapter 10: the sum of bytes, a step a bit; unlike registers stay unlike.
  Plain mathematics of adding and taking away with a carry, digit by digit.
-/
import Derived.Test.YtdbbdclhfcakdaaWCarry
import Derived.Lib.ItoaNum
import Derived.Test.YtdbbdclhfcakdaaWOwn
namespace Go.Proofs.Ytdbbdclhfcakdaa

def bys (s : ByteArray) : List UInt8 := s.data.toList

theorem bys_len (s : ByteArray) : (bys s).length = s.size := by simp [bys]

def byt (l : List UInt8) (k : Nat) : Nat := (l[k]?.map UInt8.toNat).getD 0

theorem byt_get (s : ByteArray) (k : Nat) (h : k < s.size) : s[k].toNat = byt (bys s) k := by
  unfold byt bys
  have : s.data.toList[k]? = some s[k] := by
    rw [Array.getElem?_toList, Array.getElem?_eq_getElem h]; rfl
  rw [this]; rfl

theorem byt_lt (l : List UInt8) (k : Nat) : byt l k < 256 := by
  unfold byt
  cases l[k]? with
  | none => simp
  | some b => simp; exact b.toNat_lt

theorem byt_take (l : List UInt8) {k n : Nat} (h : k < n) : byt (l.take n) k = byt l k := by
  unfold byt; rw [List.getElem?_take_of_lt h]
theorem byt_drop (l : List UInt8) (n k : Nat) : byt (l.drop n) k = byt l (n + k) := by
  unfold byt; rw [List.getElem?_drop]

theorem bys_append (a b : ByteArray) : bys (a ++ b) = bys a ++ bys b := by
  unfold bys; simp

end Go.Proofs.Ytdbbdclhfcakdaa

namespace Go.Proofs.Ytdbbdclhfcakdaa

def stp (r : Nat) : Nat := r / 2 ^^^ (3988292384 * (r % 2))
def stps : Nat → Nat → Nat
  | 0, r => r
  | k + 1, r => stp (stps k r)
def bstp (r b : Nat) : Nat := stps 8 (r ^^^ b)
def regN (l : List UInt8) : Nat → Nat
  | 0 => 4294967295
  | n + 1 => bstp (regN l n) (byt l n)
def crc (l : List UInt8) : Nat := 4294967295 - regN l l.length

theorem stp_lt {r : Nat} (h : r < 4294967296) : stp r < 4294967296 := by
  unfold stp
  have : r % 2 < 2 := Nat.mod_lt _ (by decide)
  exact Nat.xor_lt_two_pow (n := 32) (by omega) (by omega)
theorem stps_lt {r : Nat} (h : r < 4294967296) : ∀ k, stps k r < 4294967296
  | 0 => h
  | k + 1 => stp_lt (stps_lt h k)
theorem bstp_lt {r b : Nat} (h : r < 4294967296) (hb : b < 256) : bstp r b < 4294967296 :=
  stps_lt (Nat.xor_lt_two_pow (n := 32) h (by omega)) 8
theorem regN_lt (l : List UInt8) : ∀ n, regN l n < 4294967296
  | 0 => by show 4294967295 < 4294967296; decide
  | n + 1 => bstp_lt (regN_lt l n) (byt_lt l n)
theorem crc_lt (l : List UInt8) : crc l < 4294967296 := by unfold crc; omega

def dstp (r bit : Nat) : Nat := if r % 2 = bit then r / 2 else r / 2 ^^^ 3988292384
def dstps (r b : Nat) : Nat → Nat
  | 0 => r
  | k + 1 => dstp (dstps r b k) (b / 2 ^ k % 2)

theorem xor_half (a b : Nat) : (a ^^^ b) / 2 = a / 2 ^^^ b / 2 := Nat.xor_div_two
theorem xor_odd (a b : Nat) : (a ^^^ b) % 2 = (a % 2 + b % 2) % 2 := by
  have h := Nat.testBit_xor a b 0
  rw [Nat.testBit_zero, Nat.testBit_zero, Nat.testBit_zero] at h
  have h1 := Nat.mod_lt (a ^^^ b) (show 2 > 0 by decide)
  have h2 := Nat.mod_lt a (show 2 > 0 by decide)
  have h3 := Nat.mod_lt b (show 2 > 0 by decide)
  generalize (a ^^^ b) % 2 = X at *
  generalize a % 2 = Y at *
  generalize b % 2 = Z at *
  obtain rfl | rfl : X = 0 ∨ X = 1 := by omega
  all_goals (obtain rfl | rfl : Y = 0 ∨ Y = 1 := by omega)
  all_goals (obtain rfl | rfl : Z = 0 ∨ Z = 1 := by omega)
  all_goals (revert h; decide)

theorem stps_dstps (r b : Nat) : ∀ k, stps k (r ^^^ b) = dstps r b k ^^^ b / 2 ^ k
  | 0 => by simp [stps, dstps]
  | k + 1 => by
    have e : b / 2 ^ (k + 1) = b / 2 ^ k / 2 := by rw [Nat.pow_succ, Nat.div_div_eq_div_mul]
    simp only [stps, dstps]
    rw [stps_dstps r b k, e]
    generalize dstps r b k = R
    generalize b / 2 ^ k = B
    unfold stp dstp
    rw [xor_half, xor_odd]
    have hB := Nat.mod_lt B (show 2 > 0 by decide)
    have hR := Nat.mod_lt R (show 2 > 0 by decide)
    by_cases hq : R % 2 = B % 2
    · rw [if_pos hq, show (R % 2 + B % 2) % 2 = 0 by omega]
      simp
    · rw [if_neg hq, show (R % 2 + B % 2) % 2 = 1 by omega, Nat.mul_one, Nat.xor_assoc, Nat.xor_assoc, Nat.xor_comm (B / 2)]

theorem dstps_byte {r b : Nat} (hb : b < 256) : dstps r b 8 = bstp r b := by
  unfold bstp
  rw [stps_dstps, show b / 2 ^ 8 = 0 from Nat.div_eq_of_lt hb, Nat.xor_zero]
theorem dstp_lt {r bit : Nat} (h : r < 4294967296) : dstp r bit < 4294967296 := by
  unfold dstp
  split
  · omega
  · exact Nat.xor_lt_two_pow (n := 32) (by omega) (by decide)
theorem dstps_lt {r b : Nat} (h : r < 4294967296) : ∀ k, dstps r b k < 4294967296
  | 0 => h
  | k + 1 => dstp_lt (dstps_lt h k)

end Go.Proofs.Ytdbbdclhfcakdaa

namespace Go.Proofs.Ytdbbdclhfcakdaa

end Go.Proofs.Ytdbbdclhfcakdaa
