/-
  Plain mathematics: decimal digits, the numbers that they are, and texts behind texts.
  Plain mathematics of chapter 10: the sum of bytes, a step a bit; unlike registers stay unlike.
  Plain mathematics of adding and taking away with a carry, digit by digit.
-/
import Derived.Test.YtdbbdclhfcakdaaVCarry
import Derived.Lib.ItoaNum
import Derived.Test.YtdbbdclhfcakdaaVOwn
namespace Go.Proofs.Ytdbbdclhfcakdaa

def bys (s : ByteArray) : List UInt8 := s.data.toList

theorem bys_len (s : ByteArray) : (bys s).length = s.size := by simp [bys]

def byt (l : List UInt8) (k : Nat) : Nat := (l[k]?.map UInt8.toNat).getD 0

theorem byt_get (s : ByteArray) (k : Nat) (h : k < s.size) : s[k].toNat = byt (bys s) k := by
  unfold byt bys
  have : s.data.toList[k]? = some s[k] := by
    rw [Array.getElem?_toList, Array.getElem?_eq_getElem h]; rfl
  rw [this]; rfl

theorem byt_lt (l : List UInt8) (k : Nat) : byt l k < 256 := by
  unfold byt
  cases l[k]? with
  | none => simp
  | some b => simp; exact b.toNat_lt

theorem bys_append (a b : ByteArray) : bys (a ++ b) = bys a ++ bys b := by
  unfold bys; simp

end Go.Proofs.Ytdbbdclhfcakdaa

namespace Go.Proofs.Ytdbbdclhfcakdaa

def stp (r : Nat) : Nat := r / 2 ^^^ (3988292384 * (r % 2))
def stps : Nat → Nat → Nat
  | 0, r => r
  | k + 1, r => stp (stps k r)
def bstp (r b : Nat) : Nat := stps 8 (r ^^^ b)
def regN (l : List UInt8) : Nat → Nat
  | 0 => 4294967295
  | n + 1 => bstp (regN l n) (byt l n)
def crc (l : List UInt8) : Nat := 4294967295 - regN l l.length

theorem stp_lt {r : Nat} (h : r < 4294967296) : stp r < 4294967296 := by
  unfold stp
  have : r % 2 < 2 := Nat.mod_lt _ (by decide)
  exact Nat.xor_lt_two_pow (n := 32) (by omega) (by omega)
theorem stps_lt {r : Nat} (h : r < 4294967296) : ∀ k, stps k r < 4294967296
  | 0 => h
  | k + 1 => stp_lt (stps_lt h k)
theorem bstp_lt {r b : Nat} (h : r < 4294967296) (hb : b < 256) : bstp r b < 4294967296 :=
  stps_lt (Nat.xor_lt_two_pow (n := 32) h (by omega)) 8
theorem regN_lt (l : List UInt8) : ∀ n, regN l n < 4294967296
  | 0 => by show 4294967295 < 4294967296; decide
  | n + 1 => bstp_lt (regN_lt l n) (byt_lt l n)
theorem crc_lt (l : List UInt8) : crc l < 4294967296 := by unfold crc; omega

end Go.Proofs.Ytdbbdclhfcakdaa

namespace Go.Proofs.Ytdbbdclhfcakdaa

end Go.Proofs.Ytdbbdclhfcakdaa
